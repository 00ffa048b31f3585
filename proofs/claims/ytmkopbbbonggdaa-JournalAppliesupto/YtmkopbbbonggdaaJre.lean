import Derived.Test.YtmkopbbbonggdaaJrd
namespace Go.Proofs.Ytmkopbbbonggdaa.Jn
open Go.RowKit Mb Fg
set_option linter.unusedVariables false
set_option maxRecDepth 100000
set_option linter.unusedSimpArgs false
section
variable {w w' W : World} {B : Nat}
theorem put1_eq {x : Wr} {d : List Int × List Int} {left : Nat} (hf : isF x.f = true) (h0 : x.st = true → 0 < left) : put1 x d left = (put x.f (· ++ x.bs.take (min (if x.st then left - 1 else left) x.bs.length)) (if x.st then put x.f (fun _ => []) d else d), (if x.st then left - 1 else left) - min (if x.st then left - 1 else left) x.bs.length) := by
  by_cases hl : left = 0
  · have hs : x.st = false := by
      cases h : x.st with
      | false => rfl
      | true => have := h0 h; omega
    subst hl
    rw [put1_zero, hs]
    have := put_id x.f d
    simp at this ⊢
    exact this.symm
  · unfold put1
    rw [hf, if_neg (by simp), if_neg hl]
theorem and_l {a b : Bool} (h : true = (a && b)) : a = true := by cases a <;> simp_all
theorem and_r {a b : Bool} (h : true = (a && b)) : b = true := by cases a <;> cases b <;> simp_all
def Lz (k z : Int) (left rem : Nat) : Prop := (0 ≤ k → z = (left : Int)) ∧ (k < 0 → rem ≤ left)
structure QpS (W2 : World) (bf : Nat) (l : List Wr) (R : List Int × List Int) (S0 : Nat) (K z : Int) (k : Nat) (wr : World) : Prop where
  ex : ∃ aa ca ab cb d left, Fs wr W2.heap.size bf aa ca ab cb d ∧ siz d + tot (l.drop k) ≤ S0 ∧ ap (l.drop k) d left = R ∧ Lz K z left (cost (l.drop k)) ∧ (left : Int) ≤ 9223372036854775807
  bel : Below W2.heap.size W2 wr
structure QpI (W2 : World) (bf : Nat) (x : Wr) (p : Nat) (K z : Int) (d1 : List Int × List Int) (l1 rem mm : Nat) (wx : World) : Prop where
  ex : ∃ aa ca ab cb, Fs wx W2.heap.size bf aa ca ab cb (put x.f (· ++ x.bs.take mm) d1)
  blk : wx.heap[p]? = some (.cells x.cs.toArray 28 (0, 0))
  bel : Below W2.heap.size W2 wx
  lz : Lz K z (l1 - mm) ((x.n - mm) + rem)
  le : mm ≤ l1
def QpX (W2 : World) (bf : Nat) (x : Wr) (p : Nat) (K : Int) (d1 : List Int × List Int) (l1 rem left : Nat) (lf : Value) (wx : World) : Prop := ∃ z, lf = .int .i64 z ∧ QpI W2 bf x p K z d1 l1 rem 0 wx ∧ (x.st = true → 0 < left)
theorem put_snoc0 (t : List Int) (b : Int) (d : List Int × List Int) : put 0 (· ++ (t ++ [b])) d = ((put 0 (· ++ t) d).1 ++ [b], (put 0 (· ++ t) d).2) := by simp [put]
theorem put_snoc1 (t : List Int) (b : Int) (d : List Int × List Int) : put 1 (· ++ (t ++ [b])) d = ((put 1 (· ++ t) d).1, (put 1 (· ++ t) d).2 ++ [b]) := by simp [put]
theorem put_siz (f : Int) (t : List Int) (d : List Int × List Int) : siz (put f (· ++ t) d) = siz d + t.length := by
  unfold put siz
  split <;> simp <;> omega
theorem take_snocB {bs : List Int} {k : Nat} (h : k < bs.length) : bs.take (k + 1) = bs.take k ++ [bs.getD k 0] := by
  rw [List.take_add_one]
  simp [List.getD, h]
theorem cost_drop {l : List Wr} {k : Nat} (h : k < l.length) : cost (l.drop k) = (l.getD k wr0).un + cost (l.drop (k + 1)) := by
  rw [drop_cons h]
  rfl
set_option maxHeartbeats 16000000 in
theorem qapply_any {aa : Option Addr} {an ac : Nat} {dA : List Int} (hA : Rd w aa an ac dA) {ba : Option Addr} {bn bc : Nat} {dB : List Int} (hB : Rd w ba bn bc dB) {wo : Option Addr} {m d : Nat} {l : List Wr} (hl : RdWs w wo m l) (K : Int) (hK0 : -9223372036854775808 ≤ K) (hK : K ≤ 9223372036854775807) (hS : dA.length + dB.length + tot l ≤ 4194304) (hm : m ≤ 4194304) : Calls Try.prog 8 #[.agg #[.slice aa an ac, .slice ba bn bc], .slice wo m d, .int .i64 K] w fun e w' => ∃ va vb, e = .returned (.agg #[va, vb]) ∧ Own w' w.heap.size va (ap l (dA, dB) (kN l K)).1 ∧ Own w' w.heap.size vb (ap l (dA, dB) (kN l K)).2 ∧ Below w.heap.size w w' := by
  obtain rfl : dA.length = an := hA.len
  obtain rfl : dB.length = bn := hB.len
  generalize hW : w.alloc (.cells #[.slice aa dA.length ac, .slice ba dB.length bc] 24) = W
  generalize hW1 : W.alloc (.cells #[.slice none 0 0, .slice none 0 0] 24) = W1
  generalize hW2 : W1.alloc (.cells #[.slice none 0 0, .slice none 0 0] 36) = W2
  have s1 : W.heap.size = w.heap.size + 1 := by rw [← hW]; simp
  have s2 : W1.heap.size = W.heap.size + 1 := by rw [← hW1]; simp
  have b1 : Below w.heap.size w W := by rw [← hW]; exact balloc (Below.refl _ _)
  have b2 : Below W.heap.size W W1 := by rw [← hW1]; exact balloc (Below.refl _ _)
  have b3 : Below W1.heap.size W1 W2 := by rw [← hW2]; exact balloc (Below.refl _ _)
  have kb1 : W.heap[w.heap.size]? = some (.cells #[.slice aa dA.length ac, .slice ba dB.length bc] 24 (0, 0)) := by rw [← hW]; exact heap_alloc_new w _
  have kb1' : W1.heap[w.heap.size]? = some (.cells #[.slice aa dA.length ac, .slice ba dB.length bc] 24 (0, 0)) := (b2.block _ (by omega)).trans kb1
  have kb2 : W1.heap[W.heap.size]? = some (.cells #[.slice none 0 0, .slice none 0 0] 24 (0, 0)) := by rw [← hW1]; exact heap_alloc_new W _
  have kb3 : W2.heap[W1.heap.size]? = some (.cells #[.slice none 0 0, .slice none 0 0] 36 (0, 0)) := by rw [← hW2]; exact heap_alloc_new W1 _
  have HRes1 : Hid (W1.heap[W.heap.size]? = some (.cells #[.slice none 0 0, .slice none 0 0] 24 (0, 0))) := kb2
  have HBW1 : Hid (Below w.heap.size w W1) := bstep b1 b2
  have HB12 : Hid (Below W1.heap.size W1 W2) := b3
  have Hs1 : Hid (W.heap.size = w.heap.size + 1) := s1
  have HF0 : Hid (Fs W2 W1.heap.size W1.heap.size none 0 none 0 ([], [])) := ⟨kb3, Nat.le_refl _, own_zero _ _, own_zero _ _, fun g hg => (by cases hg), By.nil, By.nil⟩
  have c0 : W2.cell? ⟨w.heap.size, 0, none⟩ = some (.slice aa dA.length ac) := below_at b3 (blk_cell kb1' 0)
  have HD1 : Hid (W1.cell? ⟨w.heap.size, 1, none⟩ = some (.slice ba dB.length bc)) := blk_cell kb1' 1
  have HA : Hid (Rd W1 aa dA.length ac dA) := hA.still HBW1.out
  have HB : Hid (Rd W1 ba dB.length bc dB) := hB.still HBW1.out
  have HL : Hid (RdWs W1 wo m l) := hl.still HBW1.out
  have Hll : Hid (l.length = m) := hl.len
  have hcl := cost_le l
  have hcl2 : cost l ≤ 8388608 := by have := hl.len; omega
  have f0 : W2.cell? ⟨W1.heap.size, 0, none⟩ = some (.slice none 0 0) := blk_cell kb3 0
  have Hlow : Hid (w.heap.size ≤ W1.heap.size) := HBW1.out.size
  have Hup : Hid (W.heap.size < W1.heap.size) := by show _ < _; omega
  clear hA hB hl b1 b2 b3 kb1 kb1' kb2 kb3 s1 s2 hcl
  go_enter Try.func8, Try.ntmps8
  go_wp2_with (first
    | (at_builtin; refine wl_app_b rfl (.tmp 13) (.tmp 15) rfl W1.heap.size (.slice none 0 0) [] dA rfl (own_zero _ _) aa dA.length ac rfl (HA.out.still HB12.out) (by simp; omega) HB12.out.size ?_)
    | fail)
  intro v1 G1 HO1 HG1 HA1
  try rw [List.nil_append] at HO1
  obtain ⟨a1, e1, rfl⟩ := own_shape HO1.out
  have HKg1 : Hid (Kept W2 G1 (fun j => some j = (Value.slice none 0 0).ownBlock)) := Kept.ofGrown HG1.out
  obtain ⟨H1, hH1⟩ : ∃ H1, G1.setCell ⟨W1.heap.size, 0, none⟩ (.slice a1 dA.length e1) = H1 := ⟨_, rfl⟩
  have HF1 : Hid (Fs H1 W1.heap.size W1.heap.size a1 e1 none 0 (dA, [])) := by
    rw [← hH1]
    have := HF0.out.putA (w2 := G1) (a2 := a1) (c2 := e1) (bs := dA) (by simpa using HO1.out) HG1.out (by simpa using HA1.out) HA.out.by_
    show Fs _ _ _ _ _ _ _ _
    simpa using this
  have g0 : G1.cell? ⟨W1.heap.size, 0, none⟩ = some (.slice none 0 0) := kept_cell HKg1.out (by simp [Value.ownBlock]) f0
  have g1 : G1.frozen? ⟨W1.heap.size, 0, none⟩ = false := frozen_of_row G1 _ 0 _ _ (HKg1.out.obj HF0.out.blk (by simp [Value.ownBlock]))
  have HKh1 : Hid (Kept G1 H1 (fun j => j = W1.heap.size)) := by rw [← hH1]; exact kset (P := fun j => j = W1.heap.size) _ _ _ _ rfl
  have HBG1 : Hid (Below W1.heap.size W1 G1) := HB12.out.grown HG1.out HB12.out.size (fun q hq => by cases hq)
  have HBH1 : Hid (Below W1.heap.size W1 H1) := HBG1.out.trans (HKh1.out.below HBG1.out.size (fun j hj e => by omega))
  have h1 : H1.cell? ⟨w.heap.size, 1, none⟩ = some (.slice ba dB.length bc) := below_at HBH1.out HD1.out
  have h2 : H1.cell? ⟨W1.heap.size, 1, none⟩ = some (.slice none 0 0) := blk_cell HF1.out.blk 1
  clear f0 c0 HKg1 HO1 HG1 HA1
  go_wp2_with (first
    | (at_builtin; refine wl_app_b rfl (.tmp 19) (.tmp 21) rfl W1.heap.size (.slice none 0 0) [] dB rfl (own_zero _ _) ba dB.length bc rfl (HB.out.still HBH1.out) (by simp; omega) HBH1.out.size ?_)
    | fail)
  intro v2 G2 HO2 HG2 HA2
  try rw [List.nil_append] at HO2
  obtain ⟨a2, e2, rfl⟩ := own_shape HO2.out
  have HKg2 : Hid (Kept H1 G2 (fun j => some j = (Value.slice none 0 0).ownBlock)) := Kept.ofGrown HG2.out
  obtain ⟨H2, hH2⟩ : ∃ H2, G2.setCell ⟨W1.heap.size, 1, none⟩ (.slice a2 dB.length e2) = H2 := ⟨_, rfl⟩
  have HF2 : Hid (Fs H2 W1.heap.size W1.heap.size a1 e1 a2 e2 (dA, dB)) := by
    rw [← hH2]
    have := HF1.out.putB (w2 := G2) (a2 := a2) (c2 := e2) (bs := dB) (by simpa using HO2.out) HG2.out (by simpa using HA2.out) HB.out.by_
    show Fs _ _ _ _ _ _ _ _
    simpa using this
  have k0 : G2.cell? ⟨W1.heap.size, 1, none⟩ = some (.slice none 0 0) := kept_cell HKg2.out (by simp [Value.ownBlock]) h2
  have k1 : G2.frozen? ⟨W1.heap.size, 1, none⟩ = false := frozen_of_row G2 _ 1 _ _ (HKg2.out.obj HF1.out.blk (by simp [Value.ownBlock]))
  have HKh2 : Hid (Kept G2 H2 (fun j => j = W1.heap.size)) := by rw [← hH2]; exact kset (P := fun j => j = W1.heap.size) _ _ _ _ rfl
  have HBG2 : Hid (Below W1.heap.size W1 G2) := HBH1.out.grown HG2.out HBH1.out.size (fun q hq => by cases hq)
  have HBH2 : Hid (Below W1.heap.size W1 H2) := HBG2.out.trans (HKh2.out.below HBG2.out.size (fun j hj e => by omega))
  obtain ⟨R, hR⟩ : ∃ R, ap l (dA, dB) (kN l K) = R := ⟨_, rfl⟩
  have HRk : Hid (ap l (dA, dB) (kN l K) = R) := hR
  have hKn : (kN l K : Int) ≤ 9223372036854775807 := by unfold kN; split <;> omega
  have HA0 : Hid (QpS W1 W1.heap.size l R (dA.length + dB.length + tot l) K K 0 H2) := ⟨⟨a1, e1, a2, e2, (dA, dB), kN l K, HF2.out, Nat.le_refl _, hR, ⟨fun h => by unfold kN; rw [if_neg (by omega)]; omega, fun h => by unfold kN; rw [if_pos h]; exact Nat.le_refl _⟩, hKn⟩, HBH2.out⟩
  obtain ⟨S0, hS0⟩ : ∃ x, dA.length + dB.length + tot l = x := ⟨_, rfl⟩
  rw [hS0] at hS HA0
  clear h1 h2 HKg2 HO2 HG2 HA2 HF1 HF2 HF0 HBH1 HBG1 HBG2 hR hS0 HA HB HD1 HB12
  go_wp2_with (fail)
  go_loopw [8, 9, 10, 11] (fun lf i p q wr => ∃ (k : Nat) (z : Int), k ≤ m ∧ i = .int .i64 (k : Int) ∧ lf = .int .i64 z ∧ Hid (QpS W1 W1.heap.size l R S0 K z k wr)) (fun _ i _ _ _ => m - (intOf i).toNat)
  case atStart => exact ⟨0, K, Nat.zero_le _, rfl, rfl, HA0.out⟩
  case round =>
  obtain ⟨k, z, hkm, rfl, rfl, HAp⟩ := hrel
  obtain ⟨⟨ga, gca, gb, gcb, d0, left, hF, hsz, hap, hlz, hlf⟩, hbel⟩ := HAp.out
  have HFr : Hid (Fs wr W1.heap.size W1.heap.size ga gca gb gcb d0) := hF
  have HBr : Hid (Below W1.heap.size W1 wr) := hbel
  have Hap : Hid (ap (l.drop k) d0 left = R) := hap
  have HLz : Hid (Lz K z left (cost (l.drop k))) := hlz
  clear hF hbel hap HAp hlz
  by_cases hlt : k < m
  · obtain ⟨eb, eo, hwo, hrg⟩ := (HL.out.still HBr.out).at hlt
    have HX : Hid (wr.rangeAt eb (eo + k * 3) (l.getD k wr0).cs) := hrg
    have HRx : Hid (Rd W1 (l.getD k wr0).ao (l.getD k wr0).n (l.getD k wr0).c (l.getD k wr0).bs) := HL.out.mem k hlt
    have hdr := drop_cons (l := l) (k := k) (by rw [Hll.out]; exact hlt)
    have hcd := cost_drop (l := l) (k := k) (by rw [Hll.out]; exact hlt)
    have HDr : Hid (ap (l.drop (k + 1)) (put1 (l.getD k wr0) d0 left).1 (put1 (l.getD k wr0) d0 left).2 = R) := by
      have := Hap.out
      rw [hdr] at this
      exact this
    rw [hdr] at hsz
    simp only [tot] at hsz
    rw [hcd] at HLz
    clear hdr hrg hcd
    generalize l.getD k wr0 = x at *
    obtain ⟨A1, V, hA1, HTh, hV, HVb, HBV⟩ := newwr wr x
    have i1 : (0 : Int) ≤ (k : Int) := Int.natCast_nonneg _
    have i2 : (k : Int) < (m : Int) := by omega
    have HFV : Hid (Fs V W1.heap.size W1.heap.size ga gca gb gcb d0) := HFr.out.still HBV.out
    have HBV2 : Hid (Below W1.heap.size W1 V) := HBr.out.trans (HBV.out.mono HBr.out.size)
    have p0 : V.cell? ⟨wr.heap.size, 0, none⟩ = some (.int .i64 x.f) := blk_cell HVb.out 0
    have p1 : V.cell? ⟨wr.heap.size, 1, none⟩ = some (.bool x.st) := blk_cell HVb.out 1
    have hxl : x.bs.length = x.n := HRx.out.len
    rw [hwo]
    clear hwo HFr
    cases hfi : isF x.f with
    | false =>
      have HP1 : Hid (put1 x d0 left = (d0, left)) := by show _ = _; unfold put1; rw [hfi]; rfl
      have Hun : Hid (x.un = 0) := by show _ = _; unfold Wr.un; rw [hfi]; rfl
      have HNx : Hid (QpS W1 W1.heap.size l R S0 K z (k + 1) V) := ⟨⟨ga, gca, gb, gcb, d0, left, HFV.out, by omega, by have := HDr.out; rw [HP1.out] at this; exact this, by have := HLz.out; rw [Hun.out, Nat.zero_add] at this; exact this, hlf⟩, HBV2.out⟩
      have f0 : (x.f != 0) = true := by rw [bne_iff_ne]; intro e; rw [e] at hfi; cases hfi
      have f1 : (x.f != 1) = true := by rw [bne_iff_ne]; intro e; rw [e] at hfi; cases hfi
      have f2 : (x.f == 0) = false := by rw [beq_eq_false_iff_ne]; intro e; rw [e] at hfi; cases hfi
      have f3 : (x.f == 1) = false := by rw [beq_eq_false_iff_ne]; intro e; rw [e] at hfi; cases hfi
      have f4 : ¬ x.f = 0 := by intro e; rw [e] at hfi; cases hfi
      have f5 : ¬ x.f = 1 := by intro e; rw [e] at hfi; cases hfi
      clear hfi
      go_wp2_with (first
        | (refine at_load 28 (.tmp 33) rfl ?_; refine load_mid 28 (.tmp 33) HX.out _ Try.underlying28 rfl info_wr rfl rfl rfl ?_)
        | (refine at_store 28 (.tmp 10) (.tmp 34) rfl ?_; refine store_rowL 28 (.tmp 10) (.tmp 34) HTh.out info_wr x.cs_one rfl rfl rfl rfl ?_)
        | fail)
      exact ⟨⟨k + 1, z, by omega, by go_num, rfl, HNx.out⟩, by simp [intOf]; omega⟩
    | true =>
      have hff : x.f = 0 ∨ x.f = 1 := by unfold isF at hfi; simpa using hfi
      have Hun : Hid (x.un = if x.st then 1 + x.n else x.n) := by show _ = _; unfold Wr.un; rw [hfi, hxl]; rfl
      rw [Hun.out] at HLz
      obtain ⟨go10, hgo⟩ : ∃ b, b = (x.st && decide (0 < left)) := ⟨_, rfl⟩
      have Hgo : Hid (go10 = (x.st && decide (0 < left))) := hgo
      have Hz10 : Hid ((decide (0 < z) || decide (K < 0)) = (decide (0 < left)) ∨ x.st = false) := by
        cases hst : x.st with
        | false => exact .inr rfl
        | true =>
          left
          have h := HLz.out
          rw [hst] at h
          by_cases hK1 : K < 0
          · have := h.2 hK1
            simp only [if_true] at this
            rw [decide_eq_true hK1, Bool.or_true, decide_eq_true (show 0 < left by omega)]
          · have := h.1 (by omega)
            rw [decide_eq_false hK1, Bool.or_false]
            congr 1
            rw [this]
            simp
      clear hgo
      go_upto_region 9 with (first
        | (refine at_load 28 (.tmp 33) rfl ?_; refine load_mid 28 (.tmp 33) HX.out _ Try.underlying28 rfl info_wr rfl rfl rfl ?_)
        | (refine at_store 28 (.tmp 10) (.tmp 34) rfl ?_; refine store_rowL 28 (.tmp 10) (.tmp 34) HTh.out info_wr x.cs_one rfl rfl rfl rfl ?_)
        | fail)
      simp only [Act.put, hV]
      go_cut [42] (fun c wx => c = .bool false ∧ V = wx)
      case first =>
        rcases hff with hff | hff
        · rw [hff] at p0
          go_wp2
          go_meet
          exact ⟨rfl, rfl⟩
        · rw [hff] at p0
          go_wp2
          go_meet
          exact ⟨rfl, rfl⟩
      case rest =>
      obtain ⟨rfl, rfl⟩ := hcut
      go_upto_region 10 with (fail)
      go_cut [52] (fun c wx => c = .bool go10 ∧ V = wx)
      case first =>
        cases hst : x.st with
        | false =>
          rw [hst] at p1
          have H1 : Hid (go10 = false) := by show _ = _; rw [Hgo.out, hst]; rfl
          go_wp2
          go_meet
          exact ⟨by rw [H1.out], rfl⟩
        | true =>
          rw [hst] at p1
          have H1 : Hid (go10 = (decide (0 < z) || decide (K < 0))) := by
            show _ = _
            rcases Hz10.out with h | h
            · rw [h, Hgo.out, hst]; rfl
            · rw [hst] at h; cases h
          by_cases hz : 0 < z
          · have H2 : Hid (go10 = true) := by show _ = _; rw [H1.out, decide_eq_true hz]; rfl
            go_wp2
            go_meet
            exact ⟨by rw [H2.out], rfl⟩
          · have hz2 : ¬ z > 0 := hz
            have H2 : Hid (go10 = decide (K < 0)) := by show _ = _; rw [H1.out, decide_eq_false hz]; rfl
            go_wp2
            go_meet
            exact ⟨by rw [H2.out], rfl⟩
      case rest =>
      obtain ⟨rfl, rfl⟩ := hcut
      have HRxl : Hid (x.bs.length = x.n) := hxl
      obtain ⟨l1, hl1e⟩ : ∃ l1, (if x.st then left - 1 else left) = l1 := ⟨_, rfl⟩
      obtain ⟨d1, hd1e⟩ : ∃ d1, (if x.st then put x.f (fun _ => []) d0 else d0) = d1 := ⟨_, rfl⟩
      have Hl1 : Hid ((if x.st then left - 1 else left) = l1) := hl1e
      have Hd1 : Hid ((if x.st then put x.f (fun _ => []) d0 else d0) = d1) := hd1e
      have hl1l : l1 ≤ left := by rw [← hl1e]; split <;> omega
      have hsy : siz d1 + x.n + tot (l.drop (k + 1)) ≤ S0 := by
        have : siz d1 ≤ siz d0 := by
          rw [← hd1e]
          unfold siz put
          split
          · split <;> simp <;> omega
          · exact Nat.le_refl _
        omega
      have HPy : Hid ((x.st = true → 0 < left) → ap (l.drop (k + 1)) (put x.f (· ++ x.bs.take (min l1 x.n)) d1) (l1 - min l1 x.n) = R) := fun h => by
        have := HDr.out
        rw [put1_eq hfi h, hl1e, hd1e, HRxl.out] at this
        exact this
      clear hl1e hd1e
      go_upto_if 52 with (fail)
      go_cut [8] (fun lf wx => Hid (QpX W1 W1.heap.size x wr.heap.size K d1 l1 (cost (l.drop (k + 1))) left lf wx))
      case first =>
        have z0 : V.cell? ⟨W1.heap.size, 0, none⟩ = some (.slice ga d0.1.length gca) := blk_cell HFV.out.blk 0
        have z1 : V.cell? ⟨W1.heap.size, 1, none⟩ = some (.slice gb d0.2.length gcb) := blk_cell HFV.out.blk 1
        have y0 : V.frozen? ⟨W1.heap.size, 0, none⟩ = false := frozen_of_row V _ 0 _ _ HFV.out.blk
        have y1 : V.frozen? ⟨W1.heap.size, 1, none⟩ = false := frozen_of_row V _ 1 _ _ HFV.out.blk
        have Hnb : Hid (wr.heap.size ≠ W1.heap.size) := ty_ne HVb.out HFV.out.blk (by decide)
        cases hg10 : go10 with
        | false =>
          by_cases hst : x.st = true
          · have hl0 : left = 0 := by
              have := Hgo.out
              rw [hg10, hst] at this
              have := of_decide_eq_false this.symm
              omega
            have Hr0 : Hid (d0 = R) := by have := Hap.out; rw [hl0, ap_zero] at this; exact this
            rw [hst] at p1
            have HBfin : Hid (Below w.heap.size w V) := bstep HBW1.out HBV2.out
            have HRes : Hid (V.heap[W.heap.size]? = some (.cells #[.slice none 0 0, .slice none 0 0] 24 (0, 0))) := (HBV2.out.block _ (lt_heap HRes1.out)).trans HRes1.out
            clear hg10 y0 y1
            have y0 : V.cell? ⟨W1.heap.size, 0, none⟩ = some (.slice ga d0.1.length gca) := blk_cell HFV.out.blk 0
            have y1 : V.cell? ⟨W1.heap.size, 1, none⟩ = some (.slice gb d0.2.length gcb) := blk_cell HFV.out.blk 1
            have HTr : Hid (V.there W.heap.size 0 2) := blk_there HRes.out rfl
            obtain ⟨Y, hY⟩ : ∃ Y, V.setCells W.heap.size 0 [.slice ga d0.1.length gca, .slice gb d0.2.length gcb] = Y := ⟨_, rfl⟩
            have HYb : Hid (Y.heap[W.heap.size]? = some (.cells #[.slice ga d0.1.length gca, .slice gb d0.2.length gcb] 24 (0, 0))) := by rw [← hY]; exact sets_whole HRes.out rfl
            have HKY : Hid (Kept V Y (fun j => j = W.heap.size)) := by rw [← hY]; exact ksets (P := fun j => j = W.heap.size) rfl _ _ _
            have HoA : Hid (Own Y w.heap.size (.slice ga d0.1.length gca) d0.1) := (HFV.out.oa.lower Hlow.out).keep HKY.out (fun g hg e => by have := (HFV.out.oa.lo hg).1; have := Hup.out; omega)
            have HoB : Hid (Own Y w.heap.size (.slice gb d0.2.length gcb) d0.2) := (HFV.out.ob.lower Hlow.out).keep HKY.out (fun g hg e => by have := (HFV.out.ob.lo hg).1; have := Hup.out; omega)
            have HBY : Hid (Below w.heap.size w Y) := HBfin.out.trans (HKY.out.below HBfin.out.size (fun j hj e => by have := Hs1.out; omega))
            have Hrv : Hid (d0 = R) := Hr0.out
            go_wp2_with (first
              | (refine at_store 24 (.tmp 6) (.tmp 98) rfl ?_; refine store_rowL 24 (.tmp 6) (.tmp 98) (L := [.slice ga d0.1.length gca, .slice gb d0.2.length gcb]) HTr.out info_dk (by intro u hu; simp only [List.mem_cons, List.not_mem_nil, or_false] at hu; rcases hu with rfl | rfl <;> rfl) rfl rfl rfl rfl ?_)
              | fail)
            (try simp only [Exit.inBlock, Exit.then])
            try rw [hY]
            refine bodyPost_ret (v := .agg #[.slice ga d0.1.length gca, .slice gb d0.2.length gcb]) ?_ ?_ ?_
            · exact results_cell_row rfl _ _ W.heap.size 24 _ (0, 0) _ rfl HYb.out Try.underlying24 rfl info_dk
            · rfl
            · exact ⟨_, _, rfl, by rw [HRk.out, ← Hrv.out]; exact HoA.out, by rw [HRk.out, ← Hrv.out]; exact HoB.out, HBY.out⟩
          · have hst2 : x.st = false := by cases h : x.st with | false => rfl | true => exact absurd h hst
            rw [hst2] at p1
            have HI0 : Hid (QpX W1 W1.heap.size x wr.heap.size K d1 l1 (cost (l.drop (k + 1))) left (.int .i64 z) V) := by
              have e1 := Hl1.out
              have e2 := Hd1.out
              rw [hst2] at e1 e2
              simp only [Bool.false_eq_true, if_false] at e1 e2
              refine ⟨z, rfl, ⟨⟨ga, gca, gb, gcb, by rw [List.take_zero, put_id, ← e2]; exact HFV.out⟩, HVb.out, HBV2.out, ?_, Nat.zero_le _⟩, fun h => (by rw [hst2] at h; cases h)⟩
              have := HLz.out
              rw [hst2, e1] at this
              simpa using this
            clear hg10 hst
            go_wp2
            go_meet
            exact HI0.out
        | true =>
          have hst : x.st = true := by have := Hgo.out; rw [hg10] at this; exact (and_l this)
          have hlp : 0 < left := by have := Hgo.out; rw [hg10] at this; exact of_decide_eq_true (and_r this)
          have e1 : left - 1 = l1 := by have := Hl1.out; rw [hst] at this; exact this
          have HLy : Hid (∀ z' : Int, (0 ≤ K → z' = z - 1) → Lz K z' (l1 - 0) ((x.n - 0) + cost (l.drop (k + 1)))) := fun z' hz' => by
            have h := HLz.out
            rw [hst] at h
            simp only [if_true] at h
            refine ⟨fun hh => ?_, fun hh => ?_⟩
            · have := h.1 hh; have := hz' hh; omega
            · have := h.2 hh; omega
          have HLi : Hid (0 ≤ K → z = (left : Int)) := HLz.out.1
          clear hg10
          rcases hff with hff | hff
          · skip
            have H2 : Hid (([], d0.2) = d1) := by have := Hd1.out; rw [hst, hff] at this; exact this
            rw [hff] at p0
            obtain ⟨Y, hY⟩ : ∃ Y, V.setCell ⟨W1.heap.size, 0, none⟩ (.slice none 0 0) = Y := ⟨_, rfl⟩
            have HI1 : Hid (∀ z', (0 ≤ K → z' = z - 1) → QpX W1 W1.heap.size x wr.heap.size K d1 l1 (cost (l.drop (k + 1))) left (.int .i64 z') Y) := fun z' hz' => ⟨z', rfl, ⟨⟨none, 0, gb, gcb, by rw [List.take_zero, put_id, ← H2.out, ← hY]; exact HFV.out.emptyA⟩, by rw [← hY]; exact blk_set_ne HVb.out Hnb.out, by rw [← hY]; exact bset HBV2.out (Nat.le_refl _) _ _, HLy.out z' hz', Nat.zero_le _⟩, fun _ => hlp⟩
            go_wp2
            go_meet
            exact HI1.out _ (fun hh => by have := HLi.out hh; first | rfl | (unfold wrap64; omega) | (rw [IntKind.wrap_i64]; omega) | omega)
          · skip
            have H2 : Hid ((d0.1, []) = d1) := by have := Hd1.out; rw [hst, hff] at this; exact this
            rw [hff] at p0
            obtain ⟨Y, hY⟩ : ∃ Y, V.setCell ⟨W1.heap.size, 1, none⟩ (.slice none 0 0) = Y := ⟨_, rfl⟩
            have HI1 : Hid (∀ z', (0 ≤ K → z' = z - 1) → QpX W1 W1.heap.size x wr.heap.size K d1 l1 (cost (l.drop (k + 1))) left (.int .i64 z') Y) := fun z' hz' => ⟨z', rfl, ⟨⟨ga, gca, none, 0, by rw [List.take_zero, put_id, ← H2.out, ← hY]; exact HFV.out.emptyB⟩, by rw [← hY]; exact blk_set_ne HVb.out Hnb.out, by rw [← hY]; exact bset HBV2.out (Nat.le_refl _) _ _, HLy.out z' hz', Nat.zero_le _⟩, fun _ => hlp⟩
            go_wp2
            go_meet
            exact HI1.out _ (fun hh => by have := HLi.out hh; first | rfl | (unfold wrap64; omega) | (rw [IntKind.wrap_i64]; omega) | omega)
      case rest =>
      obtain ⟨z1, rfl, HIx, Hlp⟩ := hcut.out
      have HI0 : Hid (QpI W1 W1.heap.size x wr.heap.size K z1 d1 l1 (cost (l.drop (k + 1))) 0 wc) := HIx
      have HPz : Hid (ap (l.drop (k + 1)) (put x.f (· ++ x.bs.take (min l1 x.n)) d1) (l1 - min l1 x.n) = R) := HPy.out Hlp
      have hlf1 : (l1 : Int) ≤ 9223372036854775807 := by omega
      clear HIx Hlp HPy hcut HFV HBV2 HLz HDr Hap Hgo Hz10 Hl1 Hd1 p0 p1 HVb HBV HTh hA1 hV Hun hlf hl1l hsz hxl HBr HX
      generalize wr.heap.size = pB at *
      go_wp2_with (fail)
      go_loopw [8, 11] (fun lf q wr => ∃ (mm : Nat) (z : Int), mm ≤ x.n ∧ q = .int .i64 (mm : Int) ∧ lf = .int .i64 z ∧ Hid (QpI W1 W1.heap.size x pB K z d1 l1 (cost (l.drop (k + 1))) mm wr)) (fun _ q _ => x.n - (intOf q).toNat)
      case atStart => exact ⟨0, z1, Nat.zero_le _, rfl, rfl, HI0.out⟩
      case round =>
      obtain ⟨mm, z, hmm, rfl, rfl, HI⟩ := hrel
      obtain ⟨ga, gca, gb, gcb, hFi⟩ := HI.out.ex
      obtain ⟨d0, hd0⟩ : ∃ d, put x.f (· ++ x.bs.take mm) d1 = d := ⟨_, rfl⟩
      rw [hd0] at hFi
      have Hd0 : Hid (put x.f (· ++ x.bs.take mm) d1 = d0) := hd0
      have HFi : Hid (Fs wr W1.heap.size W1.heap.size ga gca gb gcb d0) := hFi
      have HBi : Hid (Below W1.heap.size W1 wr) := HI.out.bel
      have HbI : Hid (wr.heap[pB]? = some (.cells x.cs.toArray 28 (0, 0))) := HI.out.blk
      have HlI : Hid (Lz K z (l1 - mm) ((x.n - mm) + cost (l.drop (k + 1)))) := HI.out.lz
      have hle : mm ≤ l1 := HI.out.le
      have r0 : wr.cell? ⟨pB, 0, none⟩ = some (.int .i64 x.f) := blk_cell HbI.out 0
      have r2 : wr.cell? ⟨pB, 2, none⟩ = some (.slice x.ao x.n x.c) := blk_cell HbI.out 2
      have hsd : siz d0 + (x.n - mm) + tot (l.drop (k + 1)) ≤ S0 := by
        rw [← hd0, put_siz, List.length_take, HRxl.out]
        omega
      clear hFi hd0 HI
      by_cases hlt2 : mm < x.n
      · have j1 : (0 : Int) ≤ (mm : Int) := Int.natCast_nonneg _
        have j2 : (mm : Int) < (x.n : Int) := by omega
        obtain ⟨b17, hb17⟩ : ∃ b, b = decide (l1 - mm = 0) := ⟨_, rfl⟩
        have Hb17 : Hid (b17 = decide (l1 - mm = 0)) := hb17
        have Ht17 : Hid ((decide (z ≤ 0) && decide (0 ≤ K)) = b17) := by
          show _ = _
          rw [hb17]
          have h := HlI.out
          by_cases hk0 : 0 ≤ K
          · have := h.1 hk0
            rw [decide_eq_true hk0, Bool.and_true]
            rw [Bool.eq_iff_iff]
            simp only [decide_eq_true_eq]
            omega
          · have := h.2 (by omega)
            rw [decide_eq_false hk0, Bool.and_false, decide_eq_false (by omega)]
        clear hb17
        go_upto_region 17 with (fail)
        go_cut [72] (fun c wx => c = .bool b17 ∧ wr = wx)
        case first =>
          by_cases hz : z ≤ 0
          · have H1 : Hid (decide (0 ≤ K) = b17) := by have := Ht17.out; rw [decide_eq_true hz, Bool.true_and] at this; exact this
            go_wp2
            go_meet
            exact ⟨by rw [← H1.out], rfl⟩
          · have H1 : Hid (false = b17) := by have := Ht17.out; rw [decide_eq_false hz, Bool.false_and] at this; exact this
            go_wp2
            go_meet
            exact ⟨by rw [← H1.out], rfl⟩
        case rest =>
        obtain ⟨rfl, rfl⟩ := hcut
        cases hb : b17 with
        | true =>
          have hl1m : l1 = mm := by
            have := Hb17.out
            rw [hb] at this
            have := of_decide_eq_true this.symm
            omega
          have Hr0 : Hid (d0 = R) := by
            have := HPz.out
            rw [show min l1 x.n = mm by omega, show l1 - mm = 0 by omega, ap_zero, Hd0.out] at this
            exact this
          have HBfin : Hid (Below w.heap.size w wr) := bstep HBW1.out HBi.out
          have HRes : Hid (wr.heap[W.heap.size]? = some (.cells #[.slice none 0 0, .slice none 0 0] 24 (0, 0))) := (HBi.out.block _ (lt_heap HRes1.out)).trans HRes1.out
          clear hb
          have y0 : wr.cell? ⟨W1.heap.size, 0, none⟩ = some (.slice ga d0.1.length gca) := blk_cell HFi.out.blk 0
          have y1 : wr.cell? ⟨W1.heap.size, 1, none⟩ = some (.slice gb d0.2.length gcb) := blk_cell HFi.out.blk 1
          have HTr : Hid (wr.there W.heap.size 0 2) := blk_there HRes.out rfl
          obtain ⟨Y, hY⟩ : ∃ Y, wr.setCells W.heap.size 0 [.slice ga d0.1.length gca, .slice gb d0.2.length gcb] = Y := ⟨_, rfl⟩
          have HYb : Hid (Y.heap[W.heap.size]? = some (.cells #[.slice ga d0.1.length gca, .slice gb d0.2.length gcb] 24 (0, 0))) := by rw [← hY]; exact sets_whole HRes.out rfl
          have HKY : Hid (Kept wr Y (fun j => j = W.heap.size)) := by rw [← hY]; exact ksets (P := fun j => j = W.heap.size) rfl _ _ _
          have HoA : Hid (Own Y w.heap.size (.slice ga d0.1.length gca) d0.1) := (HFi.out.oa.lower Hlow.out).keep HKY.out (fun g hg e => by have := (HFi.out.oa.lo hg).1; have := Hup.out; omega)
          have HoB : Hid (Own Y w.heap.size (.slice gb d0.2.length gcb) d0.2) := (HFi.out.ob.lower Hlow.out).keep HKY.out (fun g hg e => by have := (HFi.out.ob.lo hg).1; have := Hup.out; omega)
          have HBY : Hid (Below w.heap.size w Y) := HBfin.out.trans (HKY.out.below HBfin.out.size (fun j hj e => by have := Hs1.out; omega))
          have Hrv : Hid (d0 = R) := Hr0.out
          go_wp2_with (first
            | (refine at_store 24 (.tmp 6) (.tmp 77) rfl ?_; refine store_rowL 24 (.tmp 6) (.tmp 77) (L := [.slice ga d0.1.length gca, .slice gb d0.2.length gcb]) HTr.out info_dk (by intro u hu; simp only [List.mem_cons, List.not_mem_nil, or_false] at hu; rcases hu with rfl | rfl <;> rfl) rfl rfl rfl rfl ?_)
            | fail)
          (try simp only [Exit.inBlock, Exit.then])
          try rw [hY]
          refine bodyPost_ret (v := .agg #[.slice ga d0.1.length gca, .slice gb d0.2.length gcb]) ?_ ?_ ?_
          · exact results_cell_row rfl _ _ W.heap.size 24 _ (0, 0) _ rfl HYb.out Try.underlying24 rfl info_dk
          · rfl
          · exact ⟨_, _, rfl, by rw [HRk.out, ← Hrv.out]; exact HoA.out, by rw [HRk.out, ← Hrv.out]; exact HoB.out, HBY.out⟩
        | false =>
          have hl1m : 0 < l1 - mm := by
            have := Hb17.out
            rw [hb] at this
            have := of_decide_eq_false this.symm
            omega
          have HbE : Hid (wr.drew.heap[pB]? = some (.cells x.cs.toArray 28 (0, 0))) := ((Below.refl wr.heap.size wr).drew.block _ (lt_heap HbI.out)).trans HbI.out
          have HFe : Hid (Fs wr.drew W1.heap.size W1.heap.size ga gca gb gcb d0) := HFi.out.still (Below.refl _ _).drew
          have HBe : Hid (Below W1.heap.size W1 wr.drew) := HBi.out.trans (Below.refl _ _).drew
          obtain ⟨ub, uo, hao, hcx⟩ : ∃ b off, x.ao = some ⟨b, off, none⟩ ∧ wr.drew.cell? ⟨b, off + mm, none⟩ = some (.int .u8 (x.bs.getD mm 0)) := by
            rcases (HRx.out.still HBe.out).at_ with h0 | ⟨b, off, e, hc⟩
            · omega
            · exact ⟨b, off, e, hc mm hlt2⟩
          obtain ⟨yb, hyb⟩ : ∃ y, x.bs.getD mm 0 = y := ⟨_, rfl⟩
          rw [hyb] at hcx
          have Htk : Hid (x.bs.take (mm + 1) = x.bs.take mm ++ [yb]) := by show _ = _; rw [take_snocB (by rw [HRxl.out]; exact hlt2), hyb]
          have Hyby : Hid (By [yb]) := By.of (fun t ht => by
            rw [List.mem_singleton.1 ht, ← hyb]
            exact HRx.out.by_ mm)
          have r2' := r2
          rw [hao] at r2'
          have HLn : Hid (∀ z' : Int, (0 ≤ K → z' = z - 1) → Lz K z' (l1 - (mm + 1)) ((x.n - (mm + 1)) + cost (l.drop (k + 1)))) := fun z' hz' => by
            have h := HlI.out
            refine ⟨fun hh => ?_, fun hh => ?_⟩
            · have := h.1 hh; have := hz' hh; omega
            · have := h.2 hh; omega
          have HLi : Hid (0 ≤ K → z = ((l1 - mm : Nat) : Int)) := HlI.out.1
          have hNb : siz d0 ≤ 4194304 := by omega
          clear hb Ht17 hyb r2
          rcases hff with hff | hff
          · rw [hff] at r0 Hd0
            have e0 : wr.drew.cell? ⟨W1.heap.size, 0, none⟩ = some (.slice ga d0.1.length gca) := blk_cell HFe.out.blk 0
            have HnW : Hid (¬ some pB = (Value.slice ga d0.1.length gca).ownBlock) := fun e => by
              obtain ⟨cur, hc⟩ := own_type HFe.out.oa e.symm
              exact ty_ne HbE.out hc (by decide) rfl
            have Hul : Hid (ub < W1.heap.size) := by
              rcases HRx.out.at_ with h0 | ⟨b, off, e, hc⟩
              · omega
              · rw [hao] at e
                have e2 : ub = b := congrArg Addr.block (Option.some.inj e)
                have := World.block_lt_of_cell? W1 _ (hc mm hlt2)
                rw [e2]
                exact this
            have HnU : Hid (¬ some ub = (Value.slice ga d0.1.length gca).ownBlock) := fun e => by
              have h1 := (HFe.out.oa.lo e.symm).1
              have h2 := Hul.out
              omega
            have d0' := below_at (Below.refl _ _).drew r0
            have d2' := below_at (Below.refl _ _).drew r2'
            obtain ⟨F1, hF1⟩ : ∃ F, wr.drew.alloc (.cells #[.int .u8 yb] 5) = F := ⟨_, rfl⟩
            have HBF : Hid (Below wr.drew.heap.size wr.drew F1) := by rw [← hF1]; exact balloc (Below.refl _ _)
            have HOo : Hid (Own F1 wr.drew.heap.size (.slice (some ⟨wr.drew.heap.size, 0, none⟩) 1 1) [yb]) := by rw [← hF1]; exact own_oneB _ _ (Nat.le_refl _)
            have k0 := below_at HBF.out d0'
            have k2 := below_at HBF.out d2'
            have ku := below_at HBF.out hcx
            have ke := below_at HBF.out e0
            have HFf : Hid (Fs F1 W1.heap.size W1.heap.size ga gca gb gcb d0) := HFe.out.still HBF.out
            have HBf : Hid (Below W1.heap.size W1 F1) := HBe.out.trans (HBF.out.mono HBe.out.size)
            go_wp2_with (fail)
            refine wp_region_held_drew (S := (fun w' => w'.cell? ⟨pB, 0, none⟩ = some (.int .i64 0) ∧ w'.cell? ⟨pB, 2, none⟩ = some (.slice (some ⟨ub, uo, none⟩) x.n x.c) ∧ w'.cell? ⟨ub, uo + mm, none⟩ = some (.int .u8 yb))) (by kernel_rfl) ⟨d0', d2', hcx⟩ (fun hHeld => ?_)
            simp only [Act.put, List.size_toArray, List.length_cons, List.length_nil, Nat.zero_add]
            refine wpAnyH_take (i := 0) (v := .pointer (some ⟨pB, 0, none⟩)) rfl (by kernel_rfl) (by kernel_rfl) (by kernel_rfl) (fun _ _ _ h => h) (Or.inl ⟨by rfl, fun w' hS => by go_simp⟩) hHeld ?_
            simp only [Act.put, List.getElem_toArray, List.getElem_cons_zero, List.getElem_cons_succ, List.setIfInBounds_toArray, List.set_cons_zero, List.set_cons_succ]
            refine wpAnyH_take (i := 1) (v := .int .i64 0) rfl (by kernel_rfl) (by kernel_rfl) (by kernel_rfl) (fun _ _ _ h => h) (Or.inl ⟨by rfl, fun w' hS => by (obtain ⟨s0, s1, s2⟩ := hS; go_simp)⟩) hHeld ?_
            simp only [Act.put, List.getElem_toArray, List.getElem_cons_zero, List.getElem_cons_succ, List.setIfInBounds_toArray, List.set_cons_zero, List.set_cons_succ]
            refine wpAnyH_take (i := 2) (v := .pointer (some ⟨pB, 0, none⟩)) rfl (by kernel_rfl) (by kernel_rfl) (by kernel_rfl) (fun _ _ _ h => h) (Or.inl ⟨by rfl, fun w' hS => by go_simp⟩) hHeld ?_
            simp only [Act.put, List.getElem_toArray, List.getElem_cons_zero, List.getElem_cons_succ, List.setIfInBounds_toArray, List.set_cons_zero, List.set_cons_succ]
            refine wpAnyH_take (i := 3) (v := .int .i64 0) rfl (by kernel_rfl) (by kernel_rfl) (by kernel_rfl) (fun _ _ _ h => h) (Or.inl ⟨by rfl, fun w' hS => by (obtain ⟨s0, s1, s2⟩ := hS; go_simp)⟩) hHeld ?_
            simp only [Act.put, List.getElem_toArray, List.getElem_cons_zero, List.getElem_cons_succ, List.setIfInBounds_toArray, List.set_cons_zero, List.set_cons_succ]
            refine wpAnyH_take (i := 4) (v := .pointer (some ⟨W1.heap.size, 0, none⟩)) rfl (by kernel_rfl) (by kernel_rfl) (by kernel_rfl) (fun _ _ _ h => h) (Or.inl ⟨by rfl, fun w' hS => by go_simp⟩) hHeld ?_
            simp only [Act.put, List.getElem_toArray, List.getElem_cons_zero, List.getElem_cons_succ, List.setIfInBounds_toArray, List.set_cons_zero, List.set_cons_succ]
            refine wpAnyH_take (i := 6) (v := .pointer (some ⟨pB, 2, none⟩)) rfl (by kernel_rfl) (by kernel_rfl) (by kernel_rfl) (fun _ _ _ h => h) (Or.inl ⟨by rfl, fun w' hS => by go_simp⟩) hHeld ?_
            simp only [Act.put, List.getElem_toArray, List.getElem_cons_zero, List.getElem_cons_succ, List.setIfInBounds_toArray, List.set_cons_zero, List.set_cons_succ]
            refine wpAnyH_take (i := 7) (v := .slice (some ⟨ub, uo, none⟩) x.n x.c) rfl (by kernel_rfl) (by kernel_rfl) (by kernel_rfl) (fun _ _ _ h => h) (Or.inl ⟨by rfl, fun w' hS => by (obtain ⟨s0, s1, s2⟩ := hS; go_simp)⟩) hHeld ?_
            simp only [Act.put, List.getElem_toArray, List.getElem_cons_zero, List.getElem_cons_succ, List.setIfInBounds_toArray, List.set_cons_zero, List.set_cons_succ]
            refine wpAnyH_take (i := 8) (v := .int .i64 (mm : Int)) rfl (by kernel_rfl) (by kernel_rfl) (by kernel_rfl) (fun _ _ _ h => h) (Or.inl ⟨by rfl, fun w' hS => by go_simp⟩) hHeld ?_
            simp only [Act.put, List.getElem_toArray, List.getElem_cons_zero, List.getElem_cons_succ, List.setIfInBounds_toArray, List.set_cons_zero, List.set_cons_succ]
            refine wpAnyH_take (i := 9) (v := .pointer (some ⟨ub, uo + mm, none⟩)) rfl (by kernel_rfl) (by kernel_rfl) (by kernel_rfl) (fun _ _ _ h => h) (Or.inl ⟨by rfl, fun w' hS => by go_simp⟩) hHeld ?_
            simp only [Act.put, List.getElem_toArray, List.getElem_cons_zero, List.getElem_cons_succ, List.setIfInBounds_toArray, List.set_cons_zero, List.set_cons_succ]
            refine wpAnyH_take (i := 10) (v := .int .u8 yb) rfl (by kernel_rfl) (by kernel_rfl) (by kernel_rfl) (fun _ _ _ h => h) (Or.inl ⟨by rfl, fun w' hS => by (obtain ⟨s0, s1, s2⟩ := hS; go_simp)⟩) hHeld ?_
            simp only [Act.put, List.getElem_toArray, List.getElem_cons_zero, List.getElem_cons_succ, List.setIfInBounds_toArray, List.set_cons_zero, List.set_cons_succ]
            refine wpAnyH_ready (rs := [5, 11]) (by kernel_rfl) (by simp) ?_
            refine AllReadyH.cons rfl (fun Kc hK => ?_) (AllReadyH.cons rfl (fun Kc hK => ?_) AllReadyH.nil)
            · skip
              go_simp
              try rw [hF1]
              refine hK.out _ _ ⟨d0', d2', hcx⟩ (fun hHeld => ?_)
              clear hK Kc
              refine wpAnyH_ready (rs := [11]) (by kernel_rfl) (by simp) ?_
              refine AllReadyH.cons rfl (fun Kc hK => ?_) AllReadyH.nil
              go_simp
              try rw [hF1]
              refine hK.out _ _ ⟨k0, k2, ku⟩ (fun hHeld => ?_)
              clear hK Kc
              refine wpAnyH_ready (rs := [12]) (by kernel_rfl) (by simp) ?_
              refine AllReadyH.cons rfl (fun Kc hK => ?_) AllReadyH.nil
              split
              · skip
                refine wp_app_b (.tmp 83) (.tmp 89) rfl W1.heap.size (.slice ga d0.1.length gca) d0.1 [yb] rfl HFf.out.oa (some ⟨wr.drew.heap.size, 0, none⟩) 1 1 rfl (HOo.out.rd Hyby.out) (by unfold siz at hNb; omega) HBf.out.size ?_
                intro v2 G HO HG HA
                obtain ⟨a2, c2, rfl⟩ := own_shape HO.out
                obtain ⟨LL, hLL⟩ : ∃ LL, (d0.1 ++ [yb]).length = LL := ⟨_, rfl⟩
                have HLL : Hid ((d0.1 ++ [yb]).length = LL) := hLL
                rw [hLL]
                clear hLL
                have HKg : Hid (Kept F1 G (fun j => some j = (Value.slice ga d0.1.length gca).ownBlock)) := Kept.ofGrown HG.out
                have g0 := kept_cell HKg.out HnW.out k0
                have g2 := kept_cell HKg.out HnW.out k2
                have gu := kept_cell HKg.out HnU.out ku
                have HBg : Hid (Below W1.heap.size W1 G) := HBf.out.grown HG.out HBf.out.size (fun q hq => (HFf.out.oa.lo hq).1)
                have HgB := HKg.out.obj HFf.out.blk (fun e => HFf.out.na e.symm)
                have HbG : Hid (G.heap[pB]? = some (.cells x.cs.toArray 28 (0, 0))) := HKg.out.obj ((HBF.out.block _ (lt_heap HbE.out)).trans HbE.out) HnW.out
                have gz : G.frozen? ⟨W1.heap.size, 0, none⟩ = false := frozen_of_row G _ 0 _ _ HgB
                have gc : G.cell? ⟨W1.heap.size, 0, none⟩ = some (.slice ga d0.1.length gca) := blk_cell HgB 0
                have hnb : pB ≠ W1.heap.size := ty_ne HbE.out HFe.out.blk (by decide)
                have hnu : ub ≠ W1.heap.size := by have := Hul.out; omega
                refine hK.out _ _ ⟨g0, g2, gu⟩ (fun hHeld => ?_)
                clear hK Kc
                refine wpAnyH_take (i := 13) (v := .pointer (some ⟨W1.heap.size, 0, none⟩)) rfl (by kernel_rfl) (by kernel_rfl) (by kernel_rfl) (fun _ _ _ h => h) (Or.inl ⟨by rfl, fun w' hS => by go_simp⟩) hHeld ?_
                simp only [Act.put, List.getElem_toArray, List.getElem_cons_zero, List.getElem_cons_succ, List.setIfInBounds_toArray, List.set_cons_zero, List.set_cons_succ]
                refine wpAnyH_ready (rs := [14]) (by kernel_rfl) (by simp) ?_
                refine AllReadyH.cons rfl (fun Kc hK => ?_) AllReadyH.nil
                obtain ⟨Y, hY⟩ : ∃ Y, G.setCell ⟨W1.heap.size, 0, none⟩ (.slice a2 LL c2) = Y := ⟨_, rfl⟩
                have HKY : Hid (Kept G Y (fun j => j = W1.heap.size)) := by rw [← hY]; exact kset (P := fun j => j = W1.heap.size) _ _ _ _ rfl
                have h0' := kept_cell HKY.out hnb g0
                have h2' := kept_cell HKY.out hnb g2
                have hu' := kept_cell HKY.out hnu gu
                have HNx : Hid (∀ z', (0 ≤ K → z' = z - 1) → QpI W1 W1.heap.size x pB K z' d1 l1 (cost (l.drop (k + 1))) (mm + 1) Y) := fun z' hz' => by
                  refine ⟨⟨a2, c2, gb, gcb, ?_⟩, HKY.out.obj HbG.out hnb, HBg.out.trans (HKY.out.below HBg.out.size (fun j hj e => by omega)), HLn.out z' hz', by omega⟩
                  rw [hff, Htk.out, put_snoc0, Hd0.out, ← hY, ← HLL.out]
                  exact HFf.out.putA HO.out HG.out HA.out Hyby.out
                go_simp
                try rw [hY]
                refine hK.out _ _ ⟨h0', h2', hu'⟩ (fun hHeld => ?_)
                clear hK Kc
                refine wpAnyH_done (by kernel_rfl) ?_ _
                clear hHeld hY g0 g2 gu gz gc h0' h2' hu' HgB hnb hnu e0 d0' d2' hF1 k0 k2 ku ke hcx r0 r2'
                go_wp2_with (fail)
                exact ⟨⟨mm + 1, _, by omega, by go_num, rfl, HNx.out _ (fun hh => by have := HLi.out hh; first | rfl | (unfold wrap64; omega) | (rw [IntKind.wrap_i64]; omega) | omega)⟩, by simp [intOf]; omega⟩
              · rename_i hne2
                exact absurd rfl hne2
            · skip
              go_simp
              try rw [hF1]
              refine hK.out _ _ ⟨k0, k2, ku⟩ (fun hHeld => ?_)
              clear hK Kc
              refine wpAnyH_ready (rs := [5]) (by kernel_rfl) (by simp) ?_
              refine AllReadyH.cons rfl (fun Kc hK => ?_) AllReadyH.nil
              go_simp
              try rw [hF1]
              refine hK.out _ _ ⟨k0, k2, ku⟩ (fun hHeld => ?_)
              clear hK Kc
              refine wpAnyH_ready (rs := [12]) (by kernel_rfl) (by simp) ?_
              refine AllReadyH.cons rfl (fun Kc hK => ?_) AllReadyH.nil
              split
              · skip
                refine wp_app_b (.tmp 83) (.tmp 89) rfl W1.heap.size (.slice ga d0.1.length gca) d0.1 [yb] rfl HFf.out.oa (some ⟨wr.drew.heap.size, 0, none⟩) 1 1 rfl (HOo.out.rd Hyby.out) (by unfold siz at hNb; omega) HBf.out.size ?_
                intro v2 G HO HG HA
                obtain ⟨a2, c2, rfl⟩ := own_shape HO.out
                obtain ⟨LL, hLL⟩ : ∃ LL, (d0.1 ++ [yb]).length = LL := ⟨_, rfl⟩
                have HLL : Hid ((d0.1 ++ [yb]).length = LL) := hLL
                rw [hLL]
                clear hLL
                have HKg : Hid (Kept F1 G (fun j => some j = (Value.slice ga d0.1.length gca).ownBlock)) := Kept.ofGrown HG.out
                have g0 := kept_cell HKg.out HnW.out k0
                have g2 := kept_cell HKg.out HnW.out k2
                have gu := kept_cell HKg.out HnU.out ku
                have HBg : Hid (Below W1.heap.size W1 G) := HBf.out.grown HG.out HBf.out.size (fun q hq => (HFf.out.oa.lo hq).1)
                have HgB := HKg.out.obj HFf.out.blk (fun e => HFf.out.na e.symm)
                have HbG : Hid (G.heap[pB]? = some (.cells x.cs.toArray 28 (0, 0))) := HKg.out.obj ((HBF.out.block _ (lt_heap HbE.out)).trans HbE.out) HnW.out
                have gz : G.frozen? ⟨W1.heap.size, 0, none⟩ = false := frozen_of_row G _ 0 _ _ HgB
                have gc : G.cell? ⟨W1.heap.size, 0, none⟩ = some (.slice ga d0.1.length gca) := blk_cell HgB 0
                have hnb : pB ≠ W1.heap.size := ty_ne HbE.out HFe.out.blk (by decide)
                have hnu : ub ≠ W1.heap.size := by have := Hul.out; omega
                refine hK.out _ _ ⟨g0, g2, gu⟩ (fun hHeld => ?_)
                clear hK Kc
                refine wpAnyH_take (i := 13) (v := .pointer (some ⟨W1.heap.size, 0, none⟩)) rfl (by kernel_rfl) (by kernel_rfl) (by kernel_rfl) (fun _ _ _ h => h) (Or.inl ⟨by rfl, fun w' hS => by go_simp⟩) hHeld ?_
                simp only [Act.put, List.getElem_toArray, List.getElem_cons_zero, List.getElem_cons_succ, List.setIfInBounds_toArray, List.set_cons_zero, List.set_cons_succ]
                refine wpAnyH_ready (rs := [14]) (by kernel_rfl) (by simp) ?_
                refine AllReadyH.cons rfl (fun Kc hK => ?_) AllReadyH.nil
                obtain ⟨Y, hY⟩ : ∃ Y, G.setCell ⟨W1.heap.size, 0, none⟩ (.slice a2 LL c2) = Y := ⟨_, rfl⟩
                have HKY : Hid (Kept G Y (fun j => j = W1.heap.size)) := by rw [← hY]; exact kset (P := fun j => j = W1.heap.size) _ _ _ _ rfl
                have h0' := kept_cell HKY.out hnb g0
                have h2' := kept_cell HKY.out hnb g2
                have hu' := kept_cell HKY.out hnu gu
                have HNx : Hid (∀ z', (0 ≤ K → z' = z - 1) → QpI W1 W1.heap.size x pB K z' d1 l1 (cost (l.drop (k + 1))) (mm + 1) Y) := fun z' hz' => by
                  refine ⟨⟨a2, c2, gb, gcb, ?_⟩, HKY.out.obj HbG.out hnb, HBg.out.trans (HKY.out.below HBg.out.size (fun j hj e => by omega)), HLn.out z' hz', by omega⟩
                  rw [hff, Htk.out, put_snoc0, Hd0.out, ← hY, ← HLL.out]
                  exact HFf.out.putA HO.out HG.out HA.out Hyby.out
                go_simp
                try rw [hY]
                refine hK.out _ _ ⟨h0', h2', hu'⟩ (fun hHeld => ?_)
                clear hK Kc
                refine wpAnyH_done (by kernel_rfl) ?_ _
                clear hHeld hY g0 g2 gu gz gc h0' h2' hu' HgB hnb hnu e0 d0' d2' hF1 k0 k2 ku ke hcx r0 r2'
                go_wp2_with (fail)
                exact ⟨⟨mm + 1, _, by omega, by go_num, rfl, HNx.out _ (fun hh => by have := HLi.out hh; first | rfl | (unfold wrap64; omega) | (rw [IntKind.wrap_i64]; omega) | omega)⟩, by simp [intOf]; omega⟩
              · rename_i hne2
                exact absurd rfl hne2
          · rw [hff] at r0 Hd0
            have e0 : wr.drew.cell? ⟨W1.heap.size, 1, none⟩ = some (.slice gb d0.2.length gcb) := blk_cell HFe.out.blk 1
            have HnW : Hid (¬ some pB = (Value.slice gb d0.2.length gcb).ownBlock) := fun e => by
              obtain ⟨cur, hc⟩ := own_type HFe.out.ob e.symm
              exact ty_ne HbE.out hc (by decide) rfl
            have Hul : Hid (ub < W1.heap.size) := by
              rcases HRx.out.at_ with h0 | ⟨b, off, e, hc⟩
              · omega
              · rw [hao] at e
                have e2 : ub = b := congrArg Addr.block (Option.some.inj e)
                have := World.block_lt_of_cell? W1 _ (hc mm hlt2)
                rw [e2]
                exact this
            have HnU : Hid (¬ some ub = (Value.slice gb d0.2.length gcb).ownBlock) := fun e => by
              have h1 := (HFe.out.ob.lo e.symm).1
              have h2 := Hul.out
              omega
            have d0' := below_at (Below.refl _ _).drew r0
            have d2' := below_at (Below.refl _ _).drew r2'
            obtain ⟨F1, hF1⟩ : ∃ F, wr.drew.alloc (.cells #[.int .u8 yb] 5) = F := ⟨_, rfl⟩
            have HBF : Hid (Below wr.drew.heap.size wr.drew F1) := by rw [← hF1]; exact balloc (Below.refl _ _)
            have HOo : Hid (Own F1 wr.drew.heap.size (.slice (some ⟨wr.drew.heap.size, 0, none⟩) 1 1) [yb]) := by rw [← hF1]; exact own_oneB _ _ (Nat.le_refl _)
            have k0 := below_at HBF.out d0'
            have k2 := below_at HBF.out d2'
            have ku := below_at HBF.out hcx
            have ke := below_at HBF.out e0
            have HFf : Hid (Fs F1 W1.heap.size W1.heap.size ga gca gb gcb d0) := HFe.out.still HBF.out
            have HBf : Hid (Below W1.heap.size W1 F1) := HBe.out.trans (HBF.out.mono HBe.out.size)
            go_wp2_with (fail)
            refine wp_region_held_drew (S := (fun w' => w'.cell? ⟨pB, 0, none⟩ = some (.int .i64 1) ∧ w'.cell? ⟨pB, 2, none⟩ = some (.slice (some ⟨ub, uo, none⟩) x.n x.c) ∧ w'.cell? ⟨ub, uo + mm, none⟩ = some (.int .u8 yb))) (by kernel_rfl) ⟨d0', d2', hcx⟩ (fun hHeld => ?_)
            simp only [Act.put, List.size_toArray, List.length_cons, List.length_nil, Nat.zero_add]
            refine wpAnyH_take (i := 0) (v := .pointer (some ⟨pB, 0, none⟩)) rfl (by kernel_rfl) (by kernel_rfl) (by kernel_rfl) (fun _ _ _ h => h) (Or.inl ⟨by rfl, fun w' hS => by go_simp⟩) hHeld ?_
            simp only [Act.put, List.getElem_toArray, List.getElem_cons_zero, List.getElem_cons_succ, List.setIfInBounds_toArray, List.set_cons_zero, List.set_cons_succ]
            refine wpAnyH_take (i := 1) (v := .int .i64 1) rfl (by kernel_rfl) (by kernel_rfl) (by kernel_rfl) (fun _ _ _ h => h) (Or.inl ⟨by rfl, fun w' hS => by (obtain ⟨s0, s1, s2⟩ := hS; go_simp)⟩) hHeld ?_
            simp only [Act.put, List.getElem_toArray, List.getElem_cons_zero, List.getElem_cons_succ, List.setIfInBounds_toArray, List.set_cons_zero, List.set_cons_succ]
            refine wpAnyH_take (i := 2) (v := .pointer (some ⟨pB, 0, none⟩)) rfl (by kernel_rfl) (by kernel_rfl) (by kernel_rfl) (fun _ _ _ h => h) (Or.inl ⟨by rfl, fun w' hS => by go_simp⟩) hHeld ?_
            simp only [Act.put, List.getElem_toArray, List.getElem_cons_zero, List.getElem_cons_succ, List.setIfInBounds_toArray, List.set_cons_zero, List.set_cons_succ]
            refine wpAnyH_take (i := 3) (v := .int .i64 1) rfl (by kernel_rfl) (by kernel_rfl) (by kernel_rfl) (fun _ _ _ h => h) (Or.inl ⟨by rfl, fun w' hS => by (obtain ⟨s0, s1, s2⟩ := hS; go_simp)⟩) hHeld ?_
            simp only [Act.put, List.getElem_toArray, List.getElem_cons_zero, List.getElem_cons_succ, List.setIfInBounds_toArray, List.set_cons_zero, List.set_cons_succ]
            refine wpAnyH_take (i := 4) (v := .pointer (some ⟨W1.heap.size, 1, none⟩)) rfl (by kernel_rfl) (by kernel_rfl) (by kernel_rfl) (fun _ _ _ h => h) (Or.inl ⟨by rfl, fun w' hS => by go_simp⟩) hHeld ?_
            simp only [Act.put, List.getElem_toArray, List.getElem_cons_zero, List.getElem_cons_succ, List.setIfInBounds_toArray, List.set_cons_zero, List.set_cons_succ]
            refine wpAnyH_take (i := 6) (v := .pointer (some ⟨pB, 2, none⟩)) rfl (by kernel_rfl) (by kernel_rfl) (by kernel_rfl) (fun _ _ _ h => h) (Or.inl ⟨by rfl, fun w' hS => by go_simp⟩) hHeld ?_
            simp only [Act.put, List.getElem_toArray, List.getElem_cons_zero, List.getElem_cons_succ, List.setIfInBounds_toArray, List.set_cons_zero, List.set_cons_succ]
            refine wpAnyH_take (i := 7) (v := .slice (some ⟨ub, uo, none⟩) x.n x.c) rfl (by kernel_rfl) (by kernel_rfl) (by kernel_rfl) (fun _ _ _ h => h) (Or.inl ⟨by rfl, fun w' hS => by (obtain ⟨s0, s1, s2⟩ := hS; go_simp)⟩) hHeld ?_
            simp only [Act.put, List.getElem_toArray, List.getElem_cons_zero, List.getElem_cons_succ, List.setIfInBounds_toArray, List.set_cons_zero, List.set_cons_succ]
            refine wpAnyH_take (i := 8) (v := .int .i64 (mm : Int)) rfl (by kernel_rfl) (by kernel_rfl) (by kernel_rfl) (fun _ _ _ h => h) (Or.inl ⟨by rfl, fun w' hS => by go_simp⟩) hHeld ?_
            simp only [Act.put, List.getElem_toArray, List.getElem_cons_zero, List.getElem_cons_succ, List.setIfInBounds_toArray, List.set_cons_zero, List.set_cons_succ]
            refine wpAnyH_take (i := 9) (v := .pointer (some ⟨ub, uo + mm, none⟩)) rfl (by kernel_rfl) (by kernel_rfl) (by kernel_rfl) (fun _ _ _ h => h) (Or.inl ⟨by rfl, fun w' hS => by go_simp⟩) hHeld ?_
            simp only [Act.put, List.getElem_toArray, List.getElem_cons_zero, List.getElem_cons_succ, List.setIfInBounds_toArray, List.set_cons_zero, List.set_cons_succ]
            refine wpAnyH_take (i := 10) (v := .int .u8 yb) rfl (by kernel_rfl) (by kernel_rfl) (by kernel_rfl) (fun _ _ _ h => h) (Or.inl ⟨by rfl, fun w' hS => by (obtain ⟨s0, s1, s2⟩ := hS; go_simp)⟩) hHeld ?_
            simp only [Act.put, List.getElem_toArray, List.getElem_cons_zero, List.getElem_cons_succ, List.setIfInBounds_toArray, List.set_cons_zero, List.set_cons_succ]
            refine wpAnyH_ready (rs := [5, 11]) (by kernel_rfl) (by simp) ?_
            refine AllReadyH.cons rfl (fun Kc hK => ?_) (AllReadyH.cons rfl (fun Kc hK => ?_) AllReadyH.nil)
            · skip
              go_simp
              try rw [hF1]
              refine hK.out _ _ ⟨d0', d2', hcx⟩ (fun hHeld => ?_)
              clear hK Kc
              refine wpAnyH_ready (rs := [11]) (by kernel_rfl) (by simp) ?_
              refine AllReadyH.cons rfl (fun Kc hK => ?_) AllReadyH.nil
              go_simp
              try rw [hF1]
              refine hK.out _ _ ⟨k0, k2, ku⟩ (fun hHeld => ?_)
              clear hK Kc
              refine wpAnyH_ready (rs := [12]) (by kernel_rfl) (by simp) ?_
              refine AllReadyH.cons rfl (fun Kc hK => ?_) AllReadyH.nil
              split
              · skip
                refine wp_app_b (.tmp 83) (.tmp 89) rfl W1.heap.size (.slice gb d0.2.length gcb) d0.2 [yb] rfl HFf.out.ob (some ⟨wr.drew.heap.size, 0, none⟩) 1 1 rfl (HOo.out.rd Hyby.out) (by unfold siz at hNb; omega) HBf.out.size ?_
                intro v2 G HO HG HA
                obtain ⟨a2, c2, rfl⟩ := own_shape HO.out
                obtain ⟨LL, hLL⟩ : ∃ LL, (d0.2 ++ [yb]).length = LL := ⟨_, rfl⟩
                have HLL : Hid ((d0.2 ++ [yb]).length = LL) := hLL
                rw [hLL]
                clear hLL
                have HKg : Hid (Kept F1 G (fun j => some j = (Value.slice gb d0.2.length gcb).ownBlock)) := Kept.ofGrown HG.out
                have g0 := kept_cell HKg.out HnW.out k0
                have g2 := kept_cell HKg.out HnW.out k2
                have gu := kept_cell HKg.out HnU.out ku
                have HBg : Hid (Below W1.heap.size W1 G) := HBf.out.grown HG.out HBf.out.size (fun q hq => (HFf.out.ob.lo hq).1)
                have HgB := HKg.out.obj HFf.out.blk (fun e => HFf.out.nb e.symm)
                have HbG : Hid (G.heap[pB]? = some (.cells x.cs.toArray 28 (0, 0))) := HKg.out.obj ((HBF.out.block _ (lt_heap HbE.out)).trans HbE.out) HnW.out
                have gz : G.frozen? ⟨W1.heap.size, 1, none⟩ = false := frozen_of_row G _ 1 _ _ HgB
                have gc : G.cell? ⟨W1.heap.size, 1, none⟩ = some (.slice gb d0.2.length gcb) := blk_cell HgB 1
                have hnb : pB ≠ W1.heap.size := ty_ne HbE.out HFe.out.blk (by decide)
                have hnu : ub ≠ W1.heap.size := by have := Hul.out; omega
                refine hK.out _ _ ⟨g0, g2, gu⟩ (fun hHeld => ?_)
                clear hK Kc
                refine wpAnyH_take (i := 13) (v := .pointer (some ⟨W1.heap.size, 1, none⟩)) rfl (by kernel_rfl) (by kernel_rfl) (by kernel_rfl) (fun _ _ _ h => h) (Or.inl ⟨by rfl, fun w' hS => by go_simp⟩) hHeld ?_
                simp only [Act.put, List.getElem_toArray, List.getElem_cons_zero, List.getElem_cons_succ, List.setIfInBounds_toArray, List.set_cons_zero, List.set_cons_succ]
                refine wpAnyH_ready (rs := [14]) (by kernel_rfl) (by simp) ?_
                refine AllReadyH.cons rfl (fun Kc hK => ?_) AllReadyH.nil
                obtain ⟨Y, hY⟩ : ∃ Y, G.setCell ⟨W1.heap.size, 1, none⟩ (.slice a2 LL c2) = Y := ⟨_, rfl⟩
                have HKY : Hid (Kept G Y (fun j => j = W1.heap.size)) := by rw [← hY]; exact kset (P := fun j => j = W1.heap.size) _ _ _ _ rfl
                have h0' := kept_cell HKY.out hnb g0
                have h2' := kept_cell HKY.out hnb g2
                have hu' := kept_cell HKY.out hnu gu
                have HNx : Hid (∀ z', (0 ≤ K → z' = z - 1) → QpI W1 W1.heap.size x pB K z' d1 l1 (cost (l.drop (k + 1))) (mm + 1) Y) := fun z' hz' => by
                  refine ⟨⟨ga, gca, a2, c2, ?_⟩, HKY.out.obj HbG.out hnb, HBg.out.trans (HKY.out.below HBg.out.size (fun j hj e => by omega)), HLn.out z' hz', by omega⟩
                  rw [hff, Htk.out, put_snoc1, Hd0.out, ← hY, ← HLL.out]
                  exact HFf.out.putB HO.out HG.out HA.out Hyby.out
                go_simp
                try rw [hY]
                refine hK.out _ _ ⟨h0', h2', hu'⟩ (fun hHeld => ?_)
                clear hK Kc
                refine wpAnyH_done (by kernel_rfl) ?_ _
                clear hHeld hY g0 g2 gu gz gc h0' h2' hu' HgB hnb hnu e0 d0' d2' hF1 k0 k2 ku ke hcx r0 r2'
                go_wp2_with (fail)
                exact ⟨⟨mm + 1, _, by omega, by go_num, rfl, HNx.out _ (fun hh => by have := HLi.out hh; first | rfl | (unfold wrap64; omega) | (rw [IntKind.wrap_i64]; omega) | omega)⟩, by simp [intOf]; omega⟩
              · rename_i hne2
                exact absurd rfl hne2
            · skip
              go_simp
              try rw [hF1]
              refine hK.out _ _ ⟨k0, k2, ku⟩ (fun hHeld => ?_)
              clear hK Kc
              refine wpAnyH_ready (rs := [5]) (by kernel_rfl) (by simp) ?_
              refine AllReadyH.cons rfl (fun Kc hK => ?_) AllReadyH.nil
              go_simp
              try rw [hF1]
              refine hK.out _ _ ⟨k0, k2, ku⟩ (fun hHeld => ?_)
              clear hK Kc
              refine wpAnyH_ready (rs := [12]) (by kernel_rfl) (by simp) ?_
              refine AllReadyH.cons rfl (fun Kc hK => ?_) AllReadyH.nil
              split
              · skip
                refine wp_app_b (.tmp 83) (.tmp 89) rfl W1.heap.size (.slice gb d0.2.length gcb) d0.2 [yb] rfl HFf.out.ob (some ⟨wr.drew.heap.size, 0, none⟩) 1 1 rfl (HOo.out.rd Hyby.out) (by unfold siz at hNb; omega) HBf.out.size ?_
                intro v2 G HO HG HA
                obtain ⟨a2, c2, rfl⟩ := own_shape HO.out
                obtain ⟨LL, hLL⟩ : ∃ LL, (d0.2 ++ [yb]).length = LL := ⟨_, rfl⟩
                have HLL : Hid ((d0.2 ++ [yb]).length = LL) := hLL
                rw [hLL]
                clear hLL
                have HKg : Hid (Kept F1 G (fun j => some j = (Value.slice gb d0.2.length gcb).ownBlock)) := Kept.ofGrown HG.out
                have g0 := kept_cell HKg.out HnW.out k0
                have g2 := kept_cell HKg.out HnW.out k2
                have gu := kept_cell HKg.out HnU.out ku
                have HBg : Hid (Below W1.heap.size W1 G) := HBf.out.grown HG.out HBf.out.size (fun q hq => (HFf.out.ob.lo hq).1)
                have HgB := HKg.out.obj HFf.out.blk (fun e => HFf.out.nb e.symm)
                have HbG : Hid (G.heap[pB]? = some (.cells x.cs.toArray 28 (0, 0))) := HKg.out.obj ((HBF.out.block _ (lt_heap HbE.out)).trans HbE.out) HnW.out
                have gz : G.frozen? ⟨W1.heap.size, 1, none⟩ = false := frozen_of_row G _ 1 _ _ HgB
                have gc : G.cell? ⟨W1.heap.size, 1, none⟩ = some (.slice gb d0.2.length gcb) := blk_cell HgB 1
                have hnb : pB ≠ W1.heap.size := ty_ne HbE.out HFe.out.blk (by decide)
                have hnu : ub ≠ W1.heap.size := by have := Hul.out; omega
                refine hK.out _ _ ⟨g0, g2, gu⟩ (fun hHeld => ?_)
                clear hK Kc
                refine wpAnyH_take (i := 13) (v := .pointer (some ⟨W1.heap.size, 1, none⟩)) rfl (by kernel_rfl) (by kernel_rfl) (by kernel_rfl) (fun _ _ _ h => h) (Or.inl ⟨by rfl, fun w' hS => by go_simp⟩) hHeld ?_
                simp only [Act.put, List.getElem_toArray, List.getElem_cons_zero, List.getElem_cons_succ, List.setIfInBounds_toArray, List.set_cons_zero, List.set_cons_succ]
                refine wpAnyH_ready (rs := [14]) (by kernel_rfl) (by simp) ?_
                refine AllReadyH.cons rfl (fun Kc hK => ?_) AllReadyH.nil
                obtain ⟨Y, hY⟩ : ∃ Y, G.setCell ⟨W1.heap.size, 1, none⟩ (.slice a2 LL c2) = Y := ⟨_, rfl⟩
                have HKY : Hid (Kept G Y (fun j => j = W1.heap.size)) := by rw [← hY]; exact kset (P := fun j => j = W1.heap.size) _ _ _ _ rfl
                have h0' := kept_cell HKY.out hnb g0
                have h2' := kept_cell HKY.out hnb g2
                have hu' := kept_cell HKY.out hnu gu
                have HNx : Hid (∀ z', (0 ≤ K → z' = z - 1) → QpI W1 W1.heap.size x pB K z' d1 l1 (cost (l.drop (k + 1))) (mm + 1) Y) := fun z' hz' => by
                  refine ⟨⟨ga, gca, a2, c2, ?_⟩, HKY.out.obj HbG.out hnb, HBg.out.trans (HKY.out.below HBg.out.size (fun j hj e => by omega)), HLn.out z' hz', by omega⟩
                  rw [hff, Htk.out, put_snoc1, Hd0.out, ← hY, ← HLL.out]
                  exact HFf.out.putB HO.out HG.out HA.out Hyby.out
                go_simp
                try rw [hY]
                refine hK.out _ _ ⟨h0', h2', hu'⟩ (fun hHeld => ?_)
                clear hK Kc
                refine wpAnyH_done (by kernel_rfl) ?_ _
                clear hHeld hY g0 g2 gu gz gc h0' h2' hu' HgB hnb hnu e0 d0' d2' hF1 k0 k2 ku ke hcx r0 r2'
                go_wp2_with (fail)
                exact ⟨⟨mm + 1, _, by omega, by go_num, rfl, HNx.out _ (fun hh => by have := HLi.out hh; first | rfl | (unfold wrap64; omega) | (rw [IntKind.wrap_i64]; omega) | omega)⟩, by simp [intOf]; omega⟩
              · rename_i hne2
                exact absurd rfl hne2
      · obtain rfl : mm = x.n := by omega
        have j2 : ¬ ((x.n : Int) < (x.n : Int)) := by omega
        have HNx : Hid (QpS W1 W1.heap.size l R S0 K z (k + 1) wr) := by
          refine ⟨⟨ga, gca, gb, gcb, d0, l1 - x.n, HFi.out, by omega, ?_, ?_, by omega⟩, HBi.out⟩
          · have := HPz.out
            rw [Nat.min_eq_right hle, Hd0.out] at this
            exact this
          · have := HlI.out
            rw [Nat.sub_self, Nat.zero_add] at this
            exact this
        go_wp2_with (fail)
        exact ⟨⟨k + 1, z, by omega, by go_num, rfl, HNx.out⟩, by simp [intOf]; omega⟩
  · obtain rfl : k = m := by omega
    have Hr0 : Hid (d0 = R) := by
      have := Hap.out
      rw [List.drop_of_length_le (by rw [Hll.out]; exact Nat.le_refl _)] at this
      exact this
    have HBfin : Hid (Below w.heap.size w wr) := bstep HBW1.out HBr.out
    have HRes : Hid (wr.heap[W.heap.size]? = some (.cells #[.slice none 0 0, .slice none 0 0] 24 (0, 0))) := (HBr.out.block _ (lt_heap HRes1.out)).trans HRes1.out
    have y0 : wr.cell? ⟨W1.heap.size, 0, none⟩ = some (.slice ga d0.1.length gca) := blk_cell HFr.out.blk 0
    have y1 : wr.cell? ⟨W1.heap.size, 1, none⟩ = some (.slice gb d0.2.length gcb) := blk_cell HFr.out.blk 1
    have HTr : Hid (wr.there W.heap.size 0 2) := blk_there HRes.out rfl
    obtain ⟨Y, hY⟩ : ∃ Y, wr.setCells W.heap.size 0 [.slice ga d0.1.length gca, .slice gb d0.2.length gcb] = Y := ⟨_, rfl⟩
    have HYb : Hid (Y.heap[W.heap.size]? = some (.cells #[.slice ga d0.1.length gca, .slice gb d0.2.length gcb] 24 (0, 0))) := by rw [← hY]; exact sets_whole HRes.out rfl
    have HKY : Hid (Kept wr Y (fun j => j = W.heap.size)) := by rw [← hY]; exact ksets (P := fun j => j = W.heap.size) rfl _ _ _
    have HoA : Hid (Own Y w.heap.size (.slice ga d0.1.length gca) d0.1) := (HFr.out.oa.lower Hlow.out).keep HKY.out (fun g hg e => by have := (HFr.out.oa.lo hg).1; have := Hup.out; omega)
    have HoB : Hid (Own Y w.heap.size (.slice gb d0.2.length gcb) d0.2) := (HFr.out.ob.lower Hlow.out).keep HKY.out (fun g hg e => by have := (HFr.out.ob.lo hg).1; have := Hup.out; omega)
    have HBY : Hid (Below w.heap.size w Y) := HBfin.out.trans (HKY.out.below HBfin.out.size (fun j hj e => by have := Hs1.out; omega))
    have Hrv : Hid (d0 = R) := Hr0.out
    go_wp2_with (first
      | (refine at_store 24 (.tmp 6) (.tmp 98) rfl ?_; refine store_rowL 24 (.tmp 6) (.tmp 98) (L := [.slice ga d0.1.length gca, .slice gb d0.2.length gcb]) HTr.out info_dk (by intro u hu; simp only [List.mem_cons, List.not_mem_nil, or_false] at hu; rcases hu with rfl | rfl <;> rfl) rfl rfl rfl rfl ?_)
      | fail)
    (try simp only [Exit.inBlock, Exit.then])
    try rw [hY]
    refine bodyPost_ret (v := .agg #[.slice ga d0.1.length gca, .slice gb d0.2.length gcb]) ?_ ?_ ?_
    · exact results_cell_row rfl _ _ W.heap.size 24 _ (0, 0) _ rfl HYb.out Try.underlying24 rfl info_dk
    · rfl
    · exact ⟨_, _, rfl, by rw [HRk.out, ← Hrv.out]; exact HoA.out, by rw [HRk.out, ← Hrv.out]; exact HoB.out, HBY.out⟩
end
end Go.Proofs.Ytmkopbbbonggdaa.Jn
