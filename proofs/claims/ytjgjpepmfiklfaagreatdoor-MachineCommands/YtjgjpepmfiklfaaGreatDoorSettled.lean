import Derived.Test.YtjgjpepmfiklfaaGreatDoorSettle
namespace Go.Proofs.YtjgjpepmfiklfaaGreatDoor.Bk
open Go.RowKit Lo
set_option linter.unusedVariables false

def PSet (pk : Nat) (ps : List Pg) (j : Nat) : Prop := j = pk ∨ ∃ p ∈ ps, some j = p.B.ownBlock

def GrRel (sz : Nat) (ps qs : List Pg) (k : Nat) : Prop := qs.length = ps.length ∧ ∀ (i : Nat) (p : Pg), ps[i]? = some p → ∃ q, qs[i]? = some q ∧ q.dn = true ∧ (q.gr = true ∨ (k ≤ i ∧ p.dn = false)) ∧ q.B = p.B ∧ (∀ j, holds q j → holds p j ∨ sz ≤ j)

theorem fillP_holds (p : Pg) (j : Nat) (h : holds (fillP p) j) : holds p j := by
  unfold fillP at h
  split at h
  · exact h
  · rcases h with e | ⟨e, _⟩ | ⟨e, _⟩
    · exact .inl e
    · simp at e
    · simp at e

theorem grRel_start (sz : Nat) (ps : List Pg) (n : Nat) (hn : ps.length = n) (hi : ∀ p ∈ ps, p.gr = p.dn) : GrRel sz ps (midL ps n) 0 := by
  refine ⟨midL_len ps n, fun i p hp => ?_⟩
  have hlt : i < ps.length := (List.getElem?_eq_some_iff.1 hp).1
  refine ⟨fillP p, by rw [midL_get ps n i p hp, if_pos (by omega)], fillP_dn p, ?_, fillP_B p, fun j h => .inl (fillP_holds p j h)⟩
  cases hd : p.dn with
  | true => exact .inl (by unfold fillP; rw [hd]; exact (hi p (List.mem_of_getElem? hp)).trans hd)
  | false => exact .inr ⟨Nat.zero_le _, rfl⟩

theorem grRel_skip {sz : Nat} {ps qs : List Pg} {k : Nat} {p : Pg} (h : GrRel sz ps qs k) (hp : ps[k]? = some p) (hd : p.dn = true) : GrRel sz ps qs (k + 1) := by
  refine ⟨h.1, fun i r hr => ?_⟩
  obtain ⟨q, h1, h2, h3, h4, h5⟩ := h.2 i r hr
  refine ⟨q, h1, h2, ?_, h4, h5⟩
  rcases h3 with h3 | ⟨h3, h6⟩
  · exact .inl h3
  · by_cases e : k = i
    · subst e
      rw [hp] at hr
      obtain rfl := Option.some.inj hr
      rw [hd] at h6; simp at h6
    · exact .inr ⟨by omega, h6⟩

theorem grRel_grow {sz m : Nat} {ps qs : List Pg} {k : Nat} {q : Pg} {G : Value} (h : GrRel sz ps qs k) (hq : qs[k]? = some q) (hG : G.ownBlock = q.B.ownBlock ∨ ∃ g', G.ownBlock = some g' ∧ m ≤ g') (hm : sz ≤ m) : GrRel sz ps (qs.set k { q with G := G, gr := true }) (k + 1) := by
  refine ⟨by rw [List.length_set]; exact h.1, fun i r hr => ?_⟩
  obtain ⟨q', h1, h2, h3, h4, h5⟩ := h.2 i r hr
  have hlt : k < qs.length := (List.getElem?_eq_some_iff.1 hq).1
  by_cases e : k = i
  · subst e
    rw [hq] at h1
    obtain rfl := Option.some.inj h1
    refine ⟨{ q with G := G, gr := true }, by rw [List.getElem?_set, if_pos rfl, if_pos hlt], h2, .inl rfl, h4, fun j hj => ?_⟩
    rcases hj with e | ⟨_, e⟩ | ⟨e, _⟩
    · exact h5 j (.inl e)
    · rcases hG with hG | ⟨g', hG, hg⟩
      · exact h5 j (.inl (hG.symm.trans e))
      · have e' : G.ownBlock = some j := e
        rw [hG] at e'
        obtain rfl := Option.some.inj e'
        exact .inr (by omega)
    · have e' : q.dn = false := e
      rw [h2] at e'; simp at e'
  · refine ⟨q', by rw [List.getElem?_set, if_neg e]; exact h1, h2, ?_, h4, h5⟩
    rcases h3 with h3 | ⟨h3, h6⟩
    · exact .inl h3
    · exact .inr ⟨by omega, h6⟩

theorem grRel_end {sz : Nat} {ps qs : List Pg} {n : Nat} (h : GrRel sz ps qs n) (hn : ps.length = n) : (∀ q ∈ qs, q.gr = q.dn) ∧ (∀ q ∈ qs, ∀ j, holds q j → (∃ p ∈ ps, holds p j) ∨ sz ≤ j) := by
  have key : ∀ q ∈ qs, ∃ p ∈ ps, q.dn = true ∧ q.gr = true ∧ (∀ j, holds q j → holds p j ∨ sz ≤ j) := by
    intro q hq
    obtain ⟨i, hi⟩ := List.getElem?_of_mem hq
    have hlt : i < qs.length := (List.getElem?_eq_some_iff.1 hi).1
    obtain ⟨p, hp⟩ : ∃ p, ps[i]? = some p := ⟨_, List.getElem?_eq_getElem (by have := h.1; omega)⟩
    obtain ⟨q', h1, h2, h3, h4, h5⟩ := h.2 i p hp
    rw [hi] at h1
    obtain rfl := Option.some.inj h1
    refine ⟨p, List.mem_of_getElem? hp, h2, ?_, h5⟩
    rcases h3 with h3 | ⟨h3, _⟩
    · exact h3
    · have := h.1; omega
  refine ⟨fun q hq => ?_, fun q hq j hj => ?_⟩
  · obtain ⟨p, _, h1, h2, _⟩ := key q hq
    rw [h1, h2]
  · obtain ⟨p, hp, _, _, h3⟩ := key q hq
    rcases h3 j hj with h | h
    · exact .inl ⟨p, hp, h⟩
    · exact .inr h

theorem PSet.of {pk k : Nat} {ps : List Pg} {p : Pg} (hp : ps[k]? = some p) (B : Value) (hB : B = p.B) (j : Nat) (h : j = pk ∨ some j = B.ownBlock) : PSet pk ps j := by
  subst hB
  exact h.imp id (fun e => ⟨p, List.mem_of_getElem? hp, e⟩)

theorem Kept.step {w a b : World} {P Q : Nat → Prop} (h : Kept w a P) (hs : Kept a b Q) (hq : ∀ j, j < w.heap.size → Q j → P j) : Kept w b P :=
  ⟨hs.os.trans h.os, hs.tape.trans h.tape, hs.output.trans h.output, Nat.le_trans h.size hs.size, fun i hi hp => (hs.block i (Nat.lt_of_lt_of_le hi h.size) (fun e => hp (hq i hi e))).trans (h.block i hi hp)⟩

set_option maxRecDepth 100000 in
set_option maxHeartbeats 8000000 in
theorem settle_some (base kb pk cp n : Nat) (nx : Int) (ps : List Pg) (w : World) (hn : ps.length = n) (H : BookIs w base kb (.slice (some ⟨pk, 0, none⟩) n cp) nx ps) (hi : ∀ p ∈ ps, p.gr = p.dn) :
    Calls Tryz.prog 18 #[.pointer (some ⟨kb, 0, none⟩)] w fun e w' => e = .returned (.bool true) ∧ (∃ qs, qs.length = n ∧ BookIs w' base kb (.slice (some ⟨pk, 0, none⟩) n cp) nx qs ∧ (∀ q ∈ qs, q.gr = q.dn) ∧ (∀ q ∈ qs, ∀ j, holds q j → (∃ p ∈ ps, holds p j) ∨ w.heap.size ≤ j)) ∧ Kept w w' (PSet pk ps) := by
  obtain ⟨ib, hib, hb0, hb1, hb2⟩ := info_parts info_bool
  have HH : Hid (BookIs w base kb (.slice (some ⟨pk, 0, none⟩) n cp) nx ps) := H
  have HI : Hid (∀ p ∈ ps, p.gr = p.dn) := hi
  have hcnt : n ≤ 96 := by have := H.cnt; omega
  have Hn : Hid (ps.length = n) := hn
  clear H hi hn
  go_enter Tryz.func18, Tryz.ntmps18
  go_wp2_with fail
  refine (intact_any base kb _ nx ps w HH.out HI.out).mono ?_
  rintro e w1 ⟨rfl, hbw1⟩
  have H1 : Hid (BookIs w1 base kb (.slice (some ⟨pk, 0, none⟩) n cp) nx ps) := HH.out.below hbw1
  have K1 : Hid (Kept w w1 (PSet pk ps)) := Kept.ofBelow hbw1 _
  clear hbw1
  have c0 : w1.cell? ⟨kb, 0, none⟩ = some (.slice (some ⟨pk, 0, none⟩) n cp) := (cell_block H1.out.k).trans rfl
  go_wp2_with (first
    | (at_make; refine wpList_make_cap _ rfl _ _ 76 rfl 4 ib (.bool false) Tryz.underlying76 hib hb0 hb1 rfl 1 hb2 _ _ _ _ n n rfl rfl rfl rfl (Nat.le_refl _) (by omega) (by omega) ?_; intro w2 hg2 hsz2 hbel2)
    | fail)
  obtain ⟨fb, hfb⟩ : ∃ fb, fb = w1.heap.size := ⟨_, rfl⟩
  rw [← hfb] at hg2 ⊢
  have HF2 : Hid (FrRow w2 fb n (frs ps 0)) := by
    have h : w2.heap[fb]? = some (.cells (frs ps 0).toArray 4 (0, 0)) := by rw [frs_zero, Hn.out]; exact hg2.out
    refine ⟨by rw [frs_len, Hn.out]; omega, .inr ⟨fb, n, _, rfl, Nat.le_refl _, h, Nat.le_refl _, by unfold maxLen; omega, by simp [frs_len, Hn.out], ?_⟩⟩
    simp only [Nat.mul_one]
    exact List.take_of_length_le (by simp [frs_len, Hn.out])
  have H2 : Hid (BookIs w2 base kb (.slice (some ⟨pk, 0, none⟩) n cp) nx ps) := H1.out.below hbel2
  have K2 : Hid (Kept w w2 (PSet pk ps)) := K1.out.trans (Kept.ofBelow hbel2 _)
  have Hfw : Hid (w.heap.size ≤ fb) := by have := K1.out.size; show w.heap.size ≤ fb; omega
  clear hfb hg2 hsz2 hbel2 c0
  go_loopw [4] (fun i wr => ∃ k : Nat, k ≤ n ∧ i = .int .i64 k ∧ BookIs wr base kb (.slice (some ⟨pk, 0, none⟩) n cp) nx (midL ps k) ∧ FrRow wr fb n (frs ps k) ∧ Kept w wr (PSet pk ps)) (fun i _ => n - (intOf i).toNat)
  case atStart => exact ⟨0, Nat.zero_le _, rfl, by rw [midL_zero]; exact H2, HF2, K2⟩
  case round =>
    obtain ⟨k, hk, rfl, hB, hF, hK⟩ := hrel
    have c0 : wr.cell? ⟨kb, 0, none⟩ = some (.slice (some ⟨pk, 0, none⟩) n cp) := (cell_block hB.k).trans rfl
    by_cases hlt : k < n
    · obtain ⟨p, hp⟩ : ∃ p, ps[k]? = some p := ⟨_, List.getElem?_eq_getElem (by have := Hn.out; omega)⟩
      have hmk : (midL ps k)[k]? = some p := by rw [midL_get ps k k p hp, if_neg (by omega)]
      have hml : (midL ps k).length = n := by rw [midL_len]; exact Hn.out
      have e4 : wr.cell? ⟨pk, k * 5 + 4, none⟩ = some (.bool p.dn) := by
        have ho := hB.o
        rw [hml] at ho
        exact (World.ownsRow.cellAt ho (k * 5 + 4) (by omega)).trans (rows_get _ k p hmk 4 (by decide))
      have f0 : wr.cell? ⟨fb, k, none⟩ = some (.bool false) := by
        have := World.ownsRow.cellAt hF k (by omega)
        rw [this, frs_get ps k k p hp, if_neg (by omega)]
      have ff : wr.frozen? ⟨fb, k, none⟩ = false := World.ownsRow.frozenAt hF k
      have hst := fr_store (k := k) hF (.bool (!p.dn))
      rw [frs_set ps k p hp] at hst
      have HST : Hid (FrRow (wr.setCell ⟨fb, k, none⟩ (.bool (!p.dn))) fb n (frs ps (k + 1))) := hst.1
      have HBS : Hid (BookIs (wr.setCell ⟨fb, k, none⟩ (.bool (!p.dn))) base kb (.slice (some ⟨pk, 0, none⟩) n cp) nx (midL ps k)) := book_fr hB hF hst.2
      have HKS : Hid (Kept w (wr.setCell ⟨fb, k, none⟩ (.bool (!p.dn))) (PSet pk ps)) := hK.step hst.2 (fun j hj e => absurd e (by have := Hfw.out; omega))
      clear hst hB hF hK
      cases hd : p.dn with
      | true =>
        rw [hd] at e4 HST HBS HKS
        have hms : midL ps (k + 1) = midL ps k := midL_same ps k p hp hd
        have HBS' : Hid (BookIs (wr.setCell ⟨fb, k, none⟩ (.bool (!true))) base kb (.slice (some ⟨pk, 0, none⟩) n cp) nx (midL ps (k + 1))) := by rw [hms]; exact HBS.out
        clear HBS hms hmk hml hp hd
        simp only [Bool.not_true] at HST HBS' HKS
        go_wp2
        go_roundw
        case rel => exact ⟨k + 1, by omega, by go_num, HBS', HST, HKS⟩
        case measure => simp [intOf]; omega
      | false =>
        rw [hd] at e4 HST HBS HKS
        simp only [Bool.not_false] at HST HBS HKS
        have hpc : (wr.setCell ⟨fb, k, none⟩ (.bool true)).cell? ⟨kb, 0, none⟩ = some (.slice (some ⟨pk, 0, none⟩) n cp) := (cell_block HBS.out.k).trans rfl
        have Hmk : Hid ((midL ps k)[k]? = some p) := hmk
        have Hml : Hid ((midL ps k).length = n) := hml
        have Hd : Hid (p.dn = false) := hd
        have Hp : Hid (ps[k]? = some p) := hp
        clear hmk hml hp hd
        go_wp2_with fail
        refine (fill_page' base kb pk cp n nx (midL ps k) k p _ Hml.out HBS.out Hmk.out Hd.out).mono ?_
        rintro e w3 ⟨rfl, hB3, hK3⟩
        have HB3 : Hid (BookIs w3 base kb (.slice (some ⟨pk, 0, none⟩) n cp) nx (midL ps (k + 1))) := by rw [← midL_step ps k p Hp.out]; exact hB3
        have HF3 : Hid (FrRow w3 fb n (frs ps (k + 1))) := fr_book HBS.out Hmk.out HST.out hK3
        have HK3 : Hid (Kept w w3 (PSet pk ps)) := HKS.out.step hK3 (fun j hj e => PSet.of Hp.out _ rfl j e)
        clear hB3 hK3 HST HBS HKS
        go_wp2
        go_roundw
        case rel => exact ⟨k + 1, by omega, by go_num, HB3, HF3, HK3⟩
        case measure => simp [intOf]; omega
    · obtain rfl : k = n := by omega
      have c1 : wr.cell? ⟨kb, 1, none⟩ = some (.slice none 0 0) := (cell_block hB.k).trans rfl
      have HB : Hid (BookIs wr base kb (.slice (some ⟨pk, 0, none⟩) k cp) nx (midL ps k)) := hB
      have HF : Hid (FrRow wr fb k (frs ps k)) := hF
      have HK : Hid (Kept w wr (PSet pk ps)) := hK
      clear hB hF hK hlt H2 HF2 K2 H1 K1
      go_wp2_with (first
        | (at_make; refine wpList_make_cap _ rfl _ _ 76 rfl 4 ib (.bool false) Tryz.underlying76 hib hb0 hb1 rfl 1 hb2 _ _ _ _ 0 0 rfl rfl rfl rfl (Nat.le_refl _) (by omega) (by omega) ?_; intro w4 hg4 hsz4 hbel4)
        | fail)
      have HB4 : Hid (BookIs w4 base kb (.slice (some ⟨pk, 0, none⟩) k cp) nx (midL ps k)) := HB.out.below hbel4
      have HF4 : Hid (FrRow w4 fb k (frs ps k)) := (Kept.ofBelow hbel4 (fun _ => False)).owns HF.out (fun _ _ h => h)
      have HK4 : Hid (Kept w w4 (PSet pk ps)) := HK.out.trans (Kept.ofBelow hbel4 _)
      have c1 : w4.cell? ⟨kb, 1, none⟩ = some (.slice none 0 0) := (cell_block HB4.out.k).trans rfl
      clear HB HF HK hg4 hsz4 hbel4
      refine wp_loop_rounds 1 ?_
      rw [rounds_succ]
      go_wp2_with fail
      go_loopw [7] (fun i wr => ∃ m : Nat, m ≤ k ∧ i = .int .i64 m ∧ ∃ qs, GrRel w.heap.size ps qs m ∧ BookIs wr base kb (.slice (some ⟨pk, 0, none⟩) k cp) nx qs ∧ FrRow wr fb k (frs ps k) ∧ Kept w wr (PSet pk ps)) (fun i _ => k - (intOf i).toNat)
      case atStart => exact ⟨0, Nat.zero_le _, rfl, midL ps k, grRel_start _ ps k Hn.out HI.out, HB4, HF4, HK4⟩
      case round =>
        obtain ⟨m, hm, rfl, qs, hG, hB, hF, hK⟩ := hrel
        have c0 : wr.cell? ⟨kb, 0, none⟩ = some (.slice (some ⟨pk, 0, none⟩) k cp) := (cell_block hB.k).trans rfl
        have c1 : wr.cell? ⟨kb, 1, none⟩ = some (.slice none 0 0) := (cell_block hB.k).trans rfl
        have HB : Hid (BookIs wr base kb (.slice (some ⟨pk, 0, none⟩) k cp) nx qs) := hB
        have HF : Hid (FrRow wr fb k (frs ps k)) := hF
        have HK : Hid (Kept w wr (PSet pk ps)) := hK
        have HG : Hid (GrRel w.heap.size ps qs m) := hG
        clear hB hF hK hG HB4 HF4 HK4
        by_cases hlt : m < k
        · obtain ⟨p, hp⟩ : ∃ p, ps[m]? = some p := ⟨_, List.getElem?_eq_getElem (by have := Hn.out; omega)⟩
          obtain ⟨q, hq, hqd, _, hqB, _⟩ := HG.out.2 m p hp
          have f0 : wr.cell? ⟨fb, m, none⟩ = some (.bool (!p.dn)) := by
            have := World.ownsRow.cellAt HF.out m (by omega)
            rw [this, frs_get ps k m p hp, if_pos (by omega)]
          have Hp : Hid (ps[m]? = some p) := hp
          have Hq : Hid (qs[m]? = some q) := hq
          have Hqd : Hid (q.dn = true) := hqd
          have HqB : Hid (q.B = p.B) := hqB
          clear hp hq hqd hqB
          cases hd : p.dn with
          | true =>
            rw [hd] at f0
            simp only [Bool.not_true] at f0
            have HG' : Hid (GrRel w.heap.size ps qs (m + 1)) := grRel_skip HG.out Hp.out hd
            clear hd
            go_wp2
            go_roundw
            case rel => exact ⟨m + 1, by omega, by go_num, qs, HG', HB, HF, HK⟩
            case measure => simp [intOf]; omega
          | false =>
            rw [hd] at f0
            simp only [Bool.not_false] at f0
            clear hd
            go_wp2_with fail
            refine (grow_page' base kb pk cp k nx qs m q _ (HG.out.1.trans Hn.out) HB.out Hq.out Hqd.out).mono ?_
            rintro e w3 ⟨rfl, G, hB3, hK3, hG3⟩
            have HB3 : Hid (BookIs w3 base kb (.slice (some ⟨pk, 0, none⟩) k cp) nx (qs.set m { q with G := G, gr := true })) := hB3
            have HF3 : Hid (FrRow w3 fb k (frs ps k)) := fr_book HB.out Hq.out HF.out hK3
            have HK3 : Hid (Kept w w3 (PSet pk ps)) := HK.out.step hK3 (fun j hj e => PSet.of Hp.out _ HqB.out j e)
            have HG3 : Hid (GrRel w.heap.size ps (qs.set m { q with G := G, gr := true }) (m + 1)) := grRel_grow HG.out Hq.out hG3 HK.out.size
            clear hB3 hK3 hG3 HB HF HK HG
            go_wp2
            go_roundw
            case rel => exact ⟨m + 1, by omega, by go_num, _, HG3, HB3, HF3, HK3⟩
            case measure => simp [intOf]; omega
        · obtain rfl : m = k := by omega
          go_wp2_with fail
          refine wp_loop_rounds 1 ?_
          rw [rounds_succ]
          go_wp2_with fail
          refine (intact_any base kb _ nx qs _ HB.out (grRel_end HG.out Hn.out).1).mono ?_
          rintro e w5 ⟨rfl, hbw5⟩
          have HR : Hid ((∃ qs, qs.length = m ∧ BookIs w5 base kb (.slice (some ⟨pk, 0, none⟩) m cp) nx qs ∧ (∀ q ∈ qs, q.gr = q.dn) ∧ (∀ q ∈ qs, ∀ j, holds q j → (∃ p ∈ ps, holds p j) ∨ w.heap.size ≤ j)) ∧ Kept w w5 (PSet pk ps)) :=
            ⟨⟨qs, HG.out.1.trans Hn.out, HB.out.below hbw5, (grRel_end HG.out Hn.out).1, (grRel_end HG.out Hn.out).2⟩, HK.out.trans (Kept.ofBelow hbw5 _)⟩
          clear hbw5
          go_wp2
          go_ret
          exact ⟨rfl, HR.out⟩

end Go.Proofs.YtjgjpepmfiklfaaGreatDoor.Bk
