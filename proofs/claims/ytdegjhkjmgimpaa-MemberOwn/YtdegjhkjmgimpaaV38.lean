import Derived.Test.YtdegjhkjmgimpaaV37
namespace Go.Proofs.Ytdegjhkjmgimpaa.Ms
open Go.RowKit Go.Maps Mb Oe
set_option linter.unusedVariables false
set_option linter.unusedSimpArgs false
set_option maxRecDepth 100000
section
variable {A A' : Ag} {w w' W : World} {B : Nat} {T : Int} {P : Nat → Prop}
theorem rw_own {g t n : Nat} {xs : List Int} (h : Rw w g t xs) (hn : xs.length = n) (hB : B ≤ g) (hm : n ≤ 16) : w.ownsRow B t 1 (.slice (some ⟨g, 0, none⟩) n n) n (ints xs) := by
  refine ⟨by rw [ints_len]; omega, .inr ⟨g, n, _, rfl, hB, h, Nat.le_refl _, by unfold maxLen; omega, by simp [ints_len, hn], ?_⟩⟩
  rw [List.take_of_length_le]
  simp [ints_len, hn]
structure So (B : Nat) (S : Si) (w : World) : Prop where
  s : w.ownsRow B 3 1 (.slice S.p.sa S.p.sn S.p.sc) S.p.sn (ints S.p.ss)
  ve : w.ownsRow B 3 1 (.slice S.p.va S.p.vn S.p.vc) S.p.vn (ints S.p.vs)
  v : w.ownsRow B 79 3 (.slice S.va S.vk S.vc) S.vk (ints S.vm)
  u : w.ownsRow B 79 3 (.slice S.ua S.uk S.uc) S.uk (ints S.um)
  t : w.ownsRow B 3 1 (.slice S.ta S.tn S.tc) S.tn (ints S.ts)
  dsv : ∀ j, (Value.slice S.p.sa S.p.sn S.p.sc).ownBlock = some j → (Value.slice S.p.va S.p.vn S.p.vc).ownBlock ≠ some j
  dst : ∀ j, (Value.slice S.p.sa S.p.sn S.p.sc).ownBlock = some j → (Value.slice S.ta S.tn S.tc).ownBlock ≠ some j
  dvt : ∀ j, (Value.slice S.p.va S.p.vn S.p.vc).ownBlock = some j → (Value.slice S.ta S.tn S.tc).ownBlock ≠ some j
  dvu : ∀ j, (Value.slice S.va S.vk S.vc).ownBlock = some j → (Value.slice S.ua S.uk S.uc).ownBlock ≠ some j
  pl : S.p.prev.length = 4
  v4 : S.vi.length = 4
  vk : S.vk ≤ 16
  u4 : S.ui.length = 4
  uk : S.uk ≤ 16
  tn : S.tn ≤ 16
  sn : S.p.sn ≤ 16
  vn : S.p.vn ≤ 16
theorem view_gen2 {inc : Int} (h : A.Ok w B T) (hv : A.Iv inc) : Calls Try.prog 18 #[.pointer (some ⟨A.b, 0, none⟩)] w fun e w' => ∃ va vc, e = .returned (.agg [.int .i64 (A.id[0]?.getD 0), .int .i64 (A.id[1]?.getD 0), .int .i64 (A.id[2]?.getD 0), .int .i64 (A.id[3]?.getD 0), .slice va A.k vc].toArray) ∧ w'.ownsRow w.heap.size 79 3 (.slice va A.k vc) A.k (ints A.ms) ∧ Below w.heap.size w w' := by
  rcases hv.vw with ⟨h1, h2, h3, h4⟩ | ⟨_, h2, g, c, h3⟩
  · refine (view_nil h h2).mono ?_
    rintro e w2 ⟨rfl, hb⟩
    refine ⟨none, 0, by rw [h3]; rfl, ?_, hb⟩
    rw [h3, h4]
    exact ⟨rfl, .inl ⟨rfl, rfl⟩⟩
  · refine (view_any h g c h3 h2).mono ?_
    rintro e w2 ⟨g', c', rfl, ho, hb⟩
    exact ⟨some ⟨g', 0, none⟩, c', rfl, ho, hb⟩
theorem agreed_gen2 {inc : Int} (h : A.Ok w B 4611686018427387903) (hv : A.Iv inc) : Calls Try.prog 17 #[.pointer (some ⟨A.b, 0, none⟩)] w fun e w' => ∃ ui ua uk uc um ta tn tc ts, e = .returned (.tuple #[.agg [.int .i64 (ui[0]?.getD 0), .int .i64 (ui[1]?.getD 0), .int .i64 (ui[2]?.getD 0), .int .i64 (ui[3]?.getD 0), .slice ua uk uc].toArray, .slice ta tn tc, .bool A.agr]) ∧ w'.ownsRow w.heap.size 79 3 (.slice ua uk uc) uk (ints um) ∧ w'.ownsRow w.heap.size 3 1 (.slice ta tn tc) tn (ints ts) ∧ uk ≤ 16 ∧ tn ≤ 16 ∧ ui.length = 4 ∧ ui = (if A.agr then A.avI else [0, 0, 0, 0]) ∧ um = (if A.agr then A.msL A.mids else []) ∧ ts = (if A.agr then A.wl A.tog else []) ∧ Below w.heap.size w w' := by
  cases hg : A.agr with
  | false =>
    refine (agreed_no h hg).mono ?_
    rintro e w2 ⟨rfl, hb⟩
    exact ⟨[0, 0, 0, 0], none, 0, 0, [], none, 0, 0, [], rfl, ⟨rfl, .inl ⟨rfl, rfl⟩⟩, ⟨rfl, .inl ⟨rfl, rfl⟩⟩, by omega, by omega, rfl, rfl, rfl, rfl, hb⟩
  | true =>
    refine (agreed_yes h (by omega) (by rw [hv.set]; have := hv.inc1; omega) hg).mono ?_
    rintro e w2 ⟨g, c, v, rfl, ho1, ho2, _, hb⟩
    obtain ⟨ta, tc, rfl⟩ := own_slice ho2
    have htn : (A.wl A.tog).length ≤ 16 := by
      unfold Ag.wl Ag.wlN
      rw [List.length_map]
      exact Nat.le_trans (List.length_filter_le _ _) (by rw [List.length_range]; exact hv.n16.2.1)
    exact ⟨A.avI, some ⟨g, 0, none⟩, A.mids.length, c, A.msL A.mids, ta, _, tc, A.wl A.tog, rfl, ho1, ho2, Nat.le_trans (mids_len A) hv.n16.2.1, htn, rfl, rfl, rfl, rfl, hb⟩
set_option maxHeartbeats 8000000 in
theorem look_own {inc : Int} (h : A.Ok w B 4611686018427387903) (hv : A.Iv inc) : Calls Try.prog 9 #[.pointer (some ⟨A.b, 0, none⟩)] w fun e w' => ∃ S : Si, e = .returned (.agg S.cs.toArray) ∧ So w.heap.size S w' ∧ S.sg = A.sg ∧ Below w.heap.size w w' := by
  generalize hW1 : w.alloc (.cells [.slice none 0 0, .int .i64 0, .int .i64 0, .int .i64 0, .int .i64 0, .int .i64 0, .int .i64 0, .int .i64 0, .slice none 0 0, .int .i64 0, .int .i64 0, .int .i64 0, .int .i64 0, .slice none 0 0, .int .i64 0, .int .i64 0, .int .i64 0, .int .i64 0, .slice none 0 0, .slice none 0 0, .bool false, .bool false].toArray 50) = W1
  have b1 : Below w.heap.size w W1 := by rw [← hW1]; exact balloc (Below.refl _ _)
  have k1 : W1.heap[w.heap.size]? = some (.cells [.slice none 0 0, .int .i64 0, .int .i64 0, .int .i64 0, .int .i64 0, .int .i64 0, .int .i64 0, .int .i64 0, .slice none 0 0, .int .i64 0, .int .i64 0, .int .i64 0, .int .i64 0, .slice none 0 0, .int .i64 0, .int .i64 0, .int .i64 0, .int .i64 0, .slice none 0 0, .slice none 0 0, .bool false, .bool false].toArray 50 (0, 0)) := by rw [← hW1]; exact heap_alloc_new w _
  have HP : Hid (Calls Try.prog 6 #[.pointer (some ⟨A.b, 0, none⟩)] W1 fun e w' => ∃ g1 g2, e = .returned (.agg [.slice (some ⟨g1, 0, none⟩) A.n A.n, .int .i64 A.own.cid, .int .i64 A.own.rev, .int .i64 A.own.top, .int .i64 (A.own.prev[0]?.getD 0), .int .i64 (A.own.prev[1]?.getD 0), .int .i64 (A.own.prev[2]?.getD 0), .int .i64 (A.own.prev[3]?.getD 0), .slice (some ⟨g2, 0, none⟩) A.n A.n].toArray) ∧ W1.heap.size ≤ g1 ∧ g1 < g2 ∧ Rw w' g1 3 (A.own.set.take A.n) ∧ Rw w' g2 3 (A.own.vec.take A.n) ∧ Below W1.heap.size W1 w') := proposal_any (h.still b1)
  have HA : Hid (A.Ok W1 B 4611686018427387903) := h.still b1
  have Hv : Hid (A.Iv inc) := hv
  have HB1 : Hid (Below w.heap.size w W1) := b1
  have HK1 : Hid (W1.heap[w.heap.size]? = some (.cells [.slice none 0 0, .int .i64 0, .int .i64 0, .int .i64 0, .int .i64 0, .int .i64 0, .int .i64 0, .int .i64 0, .slice none 0 0, .int .i64 0, .int .i64 0, .int .i64 0, .int .i64 0, .slice none 0 0, .int .i64 0, .int .i64 0, .int .i64 0, .int .i64 0, .slice none 0 0, .slice none 0 0, .bool false, .bool false].toArray 50 (0, 0))) := k1
  simp only [List.toArray] at hW1
  clear h hv b1 k1
  go_enter Try.func9, Try.ntmps9
  go_wp2_with (fail)
  refine HP.out.mono ?_
  rintro e w2 ⟨g1, g2, rfl, hg1, hg12, r1, r2, hb2⟩
  have HV := view_gen2 (HA.out.still hb2) Hv.out
  clear HP hW1
  go_wp2_with (fail)
  refine HV.mono ?_
  rintro e w3 ⟨va, vc, rfl, ho3, hb3⟩
  have HC := changing_any ((HA.out.still hb2).still hb3)
  clear HV
  have hBu : Try.prog.built 50 [(0, .agg [.slice (some ⟨g1, 0, none⟩) A.n A.n, .int .i64 A.own.cid, .int .i64 A.own.rev, .int .i64 A.own.top, .int .i64 (A.own.prev[0]?.getD 0), .int .i64 (A.own.prev[1]?.getD 0), .int .i64 (A.own.prev[2]?.getD 0), .int .i64 (A.own.prev[3]?.getD 0), .slice (some ⟨g2, 0, none⟩) A.n A.n].toArray), (1, .agg [.int .i64 (A.id[0]?.getD 0), .int .i64 (A.id[1]?.getD 0), .int .i64 (A.id[2]?.getD 0), .int .i64 (A.id[3]?.getD 0), .slice va A.k vc].toArray), (5, .bool A.chg)] = some [.slice (some ⟨g1, 0, none⟩) A.n A.n, .int .i64 A.own.cid, .int .i64 A.own.rev, .int .i64 A.own.top, .int .i64 (A.own.prev[0]?.getD 0), .int .i64 (A.own.prev[1]?.getD 0), .int .i64 (A.own.prev[2]?.getD 0), .int .i64 (A.own.prev[3]?.getD 0), .slice (some ⟨g2, 0, none⟩) A.n A.n, .int .i64 (A.id[0]?.getD 0), .int .i64 (A.id[1]?.getD 0), .int .i64 (A.id[2]?.getD 0), .int .i64 (A.id[3]?.getD 0), .slice va A.k vc, .int .i64 0, .int .i64 0, .int .i64 0, .int .i64 0, .slice none 0 0, .slice none 0 0, .bool false, .bool A.chg].toArray := by kernel_rfl
  have HBu : Hid (Try.prog.built 50 [(0, .agg [.slice (some ⟨g1, 0, none⟩) A.n A.n, .int .i64 A.own.cid, .int .i64 A.own.rev, .int .i64 A.own.top, .int .i64 (A.own.prev[0]?.getD 0), .int .i64 (A.own.prev[1]?.getD 0), .int .i64 (A.own.prev[2]?.getD 0), .int .i64 (A.own.prev[3]?.getD 0), .slice (some ⟨g2, 0, none⟩) A.n A.n].toArray), (1, .agg [.int .i64 (A.id[0]?.getD 0), .int .i64 (A.id[1]?.getD 0), .int .i64 (A.id[2]?.getD 0), .int .i64 (A.id[3]?.getD 0), .slice va A.k vc].toArray), (5, .bool A.chg)] = some [.slice (some ⟨g1, 0, none⟩) A.n A.n, .int .i64 A.own.cid, .int .i64 A.own.rev, .int .i64 A.own.top, .int .i64 (A.own.prev[0]?.getD 0), .int .i64 (A.own.prev[1]?.getD 0), .int .i64 (A.own.prev[2]?.getD 0), .int .i64 (A.own.prev[3]?.getD 0), .slice (some ⟨g2, 0, none⟩) A.n A.n, .int .i64 (A.id[0]?.getD 0), .int .i64 (A.id[1]?.getD 0), .int .i64 (A.id[2]?.getD 0), .int .i64 (A.id[3]?.getD 0), .slice va A.k vc, .int .i64 0, .int .i64 0, .int .i64 0, .int .i64 0, .slice none 0 0, .slice none 0 0, .bool false, .bool A.chg].toArray) := hBu
  clear hBu
  generalize hZ4 : w3.alloc (.cells [.slice none 0 0, .int .i64 0, .int .i64 0, .int .i64 0, .int .i64 0, .int .i64 0, .int .i64 0, .int .i64 0, .slice none 0 0, .int .i64 0, .int .i64 0, .int .i64 0, .int .i64 0, .slice none 0 0, .int .i64 0, .int .i64 0, .int .i64 0, .int .i64 0, .slice none 0 0, .slice none 0 0, .bool false, .bool false].toArray 50) = Z4
  have bz4 : Below w3.heap.size w3 Z4 := by rw [← hZ4]; exact balloc (Below.refl _ _)
  have kz4 : Z4.heap[w3.heap.size]? = some (.cells [.slice none 0 0, .int .i64 0, .int .i64 0, .int .i64 0, .int .i64 0, .int .i64 0, .int .i64 0, .int .i64 0, .slice none 0 0, .int .i64 0, .int .i64 0, .int .i64 0, .int .i64 0, .slice none 0 0, .int .i64 0, .int .i64 0, .int .i64 0, .int .i64 0, .slice none 0 0, .slice none 0 0, .bool false, .bool false].toArray 50 (0, 0)) := by rw [← hZ4]; exact heap_alloc_new w3 _
  have T0 : Hid (Z4.there w3.heap.size 0 22) := blk_there' kz4 (by simp)
  generalize hW4 : Z4.setCells w3.heap.size 0 [.slice (some ⟨g1, 0, none⟩) A.n A.n, .int .i64 A.own.cid, .int .i64 A.own.rev, .int .i64 A.own.top, .int .i64 (A.own.prev[0]?.getD 0), .int .i64 (A.own.prev[1]?.getD 0), .int .i64 (A.own.prev[2]?.getD 0), .int .i64 (A.own.prev[3]?.getD 0), .slice (some ⟨g2, 0, none⟩) A.n A.n, .int .i64 (A.id[0]?.getD 0), .int .i64 (A.id[1]?.getD 0), .int .i64 (A.id[2]?.getD 0), .int .i64 (A.id[3]?.getD 0), .slice va A.k vc, .int .i64 0, .int .i64 0, .int .i64 0, .int .i64 0, .slice none 0 0, .slice none 0 0, .bool false, .bool A.chg] = W4
  have b4 : Below w3.heap.size w3 W4 := by rw [← hW4]; exact bsets (Nat.le_refl _) _ 0 bz4
  have k4 : W4.heap[w3.heap.size]? = some (.cells [.slice (some ⟨g1, 0, none⟩) A.n A.n, .int .i64 A.own.cid, .int .i64 A.own.rev, .int .i64 A.own.top, .int .i64 (A.own.prev[0]?.getD 0), .int .i64 (A.own.prev[1]?.getD 0), .int .i64 (A.own.prev[2]?.getD 0), .int .i64 (A.own.prev[3]?.getD 0), .slice (some ⟨g2, 0, none⟩) A.n A.n, .int .i64 (A.id[0]?.getD 0), .int .i64 (A.id[1]?.getD 0), .int .i64 (A.id[2]?.getD 0), .int .i64 (A.id[3]?.getD 0), .slice va A.k vc, .int .i64 0, .int .i64 0, .int .i64 0, .int .i64 0, .slice none 0 0, .slice none 0 0, .bool false, .bool A.chg].toArray 50 (0, 0)) := by rw [← hW4]; exact sets_whole kz4 rfl
  have HG := agreed_gen2 (((HA.out.still hb2).still hb3).still b4) Hv.out
  simp only [List.toArray] at hZ4
  have Hg : Hid (W1.heap.size ≤ g1 ∧ g1 < g2) := ⟨hg1, hg12⟩
  have Hfacts : Hid (Rw w2 g1 3 (A.own.set.take A.n) ∧ Rw w2 g2 3 (A.own.vec.take A.n) ∧ Below W1.heap.size W1 w2) := ⟨r1, r2, hb2⟩
  have Ho3 : Hid (w3.ownsRow w2.heap.size 79 3 (.slice va A.k vc) A.k (ints A.ms) ∧ Below w2.heap.size w2 w3) := ⟨ho3, hb3⟩
  have HK4 : Hid (W4.heap[w3.heap.size]? = some (.cells [.slice (some ⟨g1, 0, none⟩) A.n A.n, .int .i64 A.own.cid, .int .i64 A.own.rev, .int .i64 A.own.top, .int .i64 (A.own.prev[0]?.getD 0), .int .i64 (A.own.prev[1]?.getD 0), .int .i64 (A.own.prev[2]?.getD 0), .int .i64 (A.own.prev[3]?.getD 0), .slice (some ⟨g2, 0, none⟩) A.n A.n, .int .i64 (A.id[0]?.getD 0), .int .i64 (A.id[1]?.getD 0), .int .i64 (A.id[2]?.getD 0), .int .i64 (A.id[3]?.getD 0), .slice va A.k vc, .int .i64 0, .int .i64 0, .int .i64 0, .int .i64 0, .slice none 0 0, .slice none 0 0, .bool false, .bool A.chg].toArray 50 (0, 0)) ∧ Below w3.heap.size w3 W4) := ⟨k4, b4⟩
  clear r1 r2 hb2 ho3 hb3 k4 b4 hg1 hg12 bz4 kz4
  go_wp2_with (fail)
  refine HC.mono ?_
  rintro e w3' ⟨rfl, rfl⟩
  go_wp2_with (first
    | (refine build_stepL 50 0 1 5 (.tmp 5) (.tmp 7) (.tmp 9) _ _ _ _ HBu.out rfl rfl rfl rfl rfl ?_)
    | (refine store_midL 50 (.tmp 3) (.tmp 10) (L := [.slice (some ⟨g1, 0, none⟩) A.n A.n, .int .i64 A.own.cid, .int .i64 A.own.rev, .int .i64 A.own.top, .int .i64 (A.own.prev[0]?.getD 0), .int .i64 (A.own.prev[1]?.getD 0), .int .i64 (A.own.prev[2]?.getD 0), .int .i64 (A.own.prev[3]?.getD 0), .slice (some ⟨g2, 0, none⟩) A.n A.n, .int .i64 (A.id[0]?.getD 0), .int .i64 (A.id[1]?.getD 0), .int .i64 (A.id[2]?.getD 0), .int .i64 (A.id[3]?.getD 0), .slice va A.k vc, .int .i64 0, .int .i64 0, .int .i64 0, .int .i64 0, .slice none 0 0, .slice none 0 0, .bool false, .bool A.chg]) T0.out info_sight (by simp [Value.oneCell']) rfl rfl rfl rfl ?_; rw [hW4])
    | fail)
  refine HG.mono ?_
  rintro e w5 ⟨ui, ua, uk, uc, um, ta, tn, tc, ts, rfl, ho5, ho6, huk, htn, hu4, hui, hum, hts, hb5⟩
  clear HG HC hW4 hZ4 HBu T0
  have k5 := (hb5.block _ (lt_heap HK4.out.1)).trans HK4.out.1
  generalize hM1 : w5.setCells w3.heap.size 14 [.int .i64 (ui[0]?.getD 0), .int .i64 (ui[1]?.getD 0), .int .i64 (ui[2]?.getD 0), .int .i64 (ui[3]?.getD 0), .slice ua uk uc] = M1
  have m1 : M1.heap[w3.heap.size]? = some (.cells [.slice (some ⟨g1, 0, none⟩) A.n A.n, .int .i64 A.own.cid, .int .i64 A.own.rev, .int .i64 A.own.top, .int .i64 (A.own.prev[0]?.getD 0), .int .i64 (A.own.prev[1]?.getD 0), .int .i64 (A.own.prev[2]?.getD 0), .int .i64 (A.own.prev[3]?.getD 0), .slice (some ⟨g2, 0, none⟩) A.n A.n, .int .i64 (A.id[0]?.getD 0), .int .i64 (A.id[1]?.getD 0), .int .i64 (A.id[2]?.getD 0), .int .i64 (A.id[3]?.getD 0), .slice va A.k vc, .int .i64 (ui[0]?.getD 0), .int .i64 (ui[1]?.getD 0), .int .i64 (ui[2]?.getD 0), .int .i64 (ui[3]?.getD 0), .slice ua uk uc, .slice none 0 0, .bool false, .bool A.chg].toArray 50 (0, 0)) := by rw [← hM1]; exact sets_list [.int .i64 (ui[0]?.getD 0), .int .i64 (ui[1]?.getD 0), .int .i64 (ui[2]?.getD 0), .int .i64 (ui[3]?.getD 0), .slice ua uk uc] 14 w5 [.slice (some ⟨g1, 0, none⟩) A.n A.n, .int .i64 A.own.cid, .int .i64 A.own.rev, .int .i64 A.own.top, .int .i64 (A.own.prev[0]?.getD 0), .int .i64 (A.own.prev[1]?.getD 0), .int .i64 (A.own.prev[2]?.getD 0), .int .i64 (A.own.prev[3]?.getD 0), .slice (some ⟨g2, 0, none⟩) A.n A.n, .int .i64 (A.id[0]?.getD 0), .int .i64 (A.id[1]?.getD 0), .int .i64 (A.id[2]?.getD 0), .int .i64 (A.id[3]?.getD 0), .slice va A.k vc, .int .i64 0, .int .i64 0, .int .i64 0, .int .i64 0, .slice none 0 0, .slice none 0 0, .bool false, .bool A.chg] k5 (by simp)
  generalize hM2 : M1.setCell ⟨w3.heap.size, 19, none⟩ (.slice ta tn tc) = M2
  have m2 : M2.heap[w3.heap.size]? = some (.cells [.slice (some ⟨g1, 0, none⟩) A.n A.n, .int .i64 A.own.cid, .int .i64 A.own.rev, .int .i64 A.own.top, .int .i64 (A.own.prev[0]?.getD 0), .int .i64 (A.own.prev[1]?.getD 0), .int .i64 (A.own.prev[2]?.getD 0), .int .i64 (A.own.prev[3]?.getD 0), .slice (some ⟨g2, 0, none⟩) A.n A.n, .int .i64 (A.id[0]?.getD 0), .int .i64 (A.id[1]?.getD 0), .int .i64 (A.id[2]?.getD 0), .int .i64 (A.id[3]?.getD 0), .slice va A.k vc, .int .i64 (ui[0]?.getD 0), .int .i64 (ui[1]?.getD 0), .int .i64 (ui[2]?.getD 0), .int .i64 (ui[3]?.getD 0), .slice ua uk uc, .slice ta tn tc, .bool false, .bool A.chg].toArray 50 (0, 0)) := by rw [← hM2]; exact blk_set m1 rfl
  generalize hM3 : M2.setCell ⟨w3.heap.size, 20, none⟩ (.bool A.agr) = M3
  have m3 : M3.heap[w3.heap.size]? = some (.cells [.slice (some ⟨g1, 0, none⟩) A.n A.n, .int .i64 A.own.cid, .int .i64 A.own.rev, .int .i64 A.own.top, .int .i64 (A.own.prev[0]?.getD 0), .int .i64 (A.own.prev[1]?.getD 0), .int .i64 (A.own.prev[2]?.getD 0), .int .i64 (A.own.prev[3]?.getD 0), .slice (some ⟨g2, 0, none⟩) A.n A.n, .int .i64 (A.id[0]?.getD 0), .int .i64 (A.id[1]?.getD 0), .int .i64 (A.id[2]?.getD 0), .int .i64 (A.id[3]?.getD 0), .slice va A.k vc, .int .i64 (ui[0]?.getD 0), .int .i64 (ui[1]?.getD 0), .int .i64 (ui[2]?.getD 0), .int .i64 (ui[3]?.getD 0), .slice ua uk uc, .slice ta tn tc, .bool A.agr, .bool A.chg].toArray 50 (0, 0)) := by rw [← hM3]; exact blk_set m2 rfl
  have kk1 : Kept w5 M3 (fun j => j = w3.heap.size) := by
    rw [← hM3, ← hM2, ← hM1]
    exact ((ksets (P := fun j => j = w3.heap.size) (b := w3.heap.size) rfl [.int .i64 (ui[0]?.getD 0), .int .i64 (ui[1]?.getD 0), .int .i64 (ui[2]?.getD 0), .int .i64 (ui[3]?.getD 0), .slice ua uk uc] 14 w5).trans (kset _ _ _ _ rfl)).trans (kset _ _ _ _ rfl)
  have hlt1 : w.heap.size < w3.heap.size := by
    have h1 := lt_heap HK1.out
    have h2 := Hfacts.out.2.2.size
    have h3 := Ho3.out.2.size
    omega
  have B15 : Below W1.heap.size W1 w5 := bstep (bstep (bstep Hfacts.out.2.2 Ho3.out.2) HK4.out.2) hb5
  have q2 : M3.heap[w.heap.size]? = some (.cells [.slice none 0 0, .int .i64 0, .int .i64 0, .int .i64 0, .int .i64 0, .int .i64 0, .int .i64 0, .int .i64 0, .slice none 0 0, .int .i64 0, .int .i64 0, .int .i64 0, .int .i64 0, .slice none 0 0, .int .i64 0, .int .i64 0, .int .i64 0, .int .i64 0, .slice none 0 0, .slice none 0 0, .bool false, .bool false].toArray 50 (0, 0)) := kk1.obj ((B15.block _ (lt_heap HK1.out)).trans HK1.out) (by omega)
  generalize hM4 : M3.setCells w.heap.size 0 [.slice (some ⟨g1, 0, none⟩) A.n A.n, .int .i64 A.own.cid, .int .i64 A.own.rev, .int .i64 A.own.top, .int .i64 (A.own.prev[0]?.getD 0), .int .i64 (A.own.prev[1]?.getD 0), .int .i64 (A.own.prev[2]?.getD 0), .int .i64 (A.own.prev[3]?.getD 0), .slice (some ⟨g2, 0, none⟩) A.n A.n, .int .i64 (A.id[0]?.getD 0), .int .i64 (A.id[1]?.getD 0), .int .i64 (A.id[2]?.getD 0), .int .i64 (A.id[3]?.getD 0), .slice va A.k vc, .int .i64 (ui[0]?.getD 0), .int .i64 (ui[1]?.getD 0), .int .i64 (ui[2]?.getD 0), .int .i64 (ui[3]?.getD 0), .slice ua uk uc, .slice ta tn tc, .bool A.agr, .bool A.chg] = M4
  have m4 : M4.heap[w.heap.size]? = some (.cells [.slice (some ⟨g1, 0, none⟩) A.n A.n, .int .i64 A.own.cid, .int .i64 A.own.rev, .int .i64 A.own.top, .int .i64 (A.own.prev[0]?.getD 0), .int .i64 (A.own.prev[1]?.getD 0), .int .i64 (A.own.prev[2]?.getD 0), .int .i64 (A.own.prev[3]?.getD 0), .slice (some ⟨g2, 0, none⟩) A.n A.n, .int .i64 (A.id[0]?.getD 0), .int .i64 (A.id[1]?.getD 0), .int .i64 (A.id[2]?.getD 0), .int .i64 (A.id[3]?.getD 0), .slice va A.k vc, .int .i64 (ui[0]?.getD 0), .int .i64 (ui[1]?.getD 0), .int .i64 (ui[2]?.getD 0), .int .i64 (ui[3]?.getD 0), .slice ua uk uc, .slice ta tn tc, .bool A.agr, .bool A.chg].toArray 50 (0, 0)) := by rw [← hM4]; exact sets_whole q2 rfl
  have kk2 : Kept M3 M4 (fun j => j = w.heap.size) := by rw [← hM4]; exact ksets (P := fun j => j = w.heap.size) (b := w.heap.size) rfl [.slice (some ⟨g1, 0, none⟩) A.n A.n, .int .i64 A.own.cid, .int .i64 A.own.rev, .int .i64 A.own.top, .int .i64 (A.own.prev[0]?.getD 0), .int .i64 (A.own.prev[1]?.getD 0), .int .i64 (A.own.prev[2]?.getD 0), .int .i64 (A.own.prev[3]?.getD 0), .slice (some ⟨g2, 0, none⟩) A.n A.n, .int .i64 (A.id[0]?.getD 0), .int .i64 (A.id[1]?.getD 0), .int .i64 (A.id[2]?.getD 0), .int .i64 (A.id[3]?.getD 0), .slice va A.k vc, .int .i64 (ui[0]?.getD 0), .int .i64 (ui[1]?.getD 0), .int .i64 (ui[2]?.getD 0), .int .i64 (ui[3]?.getD 0), .slice ua uk uc, .slice ta tn tc, .bool A.agr, .bool A.chg] 0 M3
  have kk1' := HK1.out
  have R3 : Hid (M3.rangeAt w3.heap.size 0 [.slice (some ⟨g1, 0, none⟩) A.n A.n, .int .i64 A.own.cid, .int .i64 A.own.rev, .int .i64 A.own.top, .int .i64 (A.own.prev[0]?.getD 0), .int .i64 (A.own.prev[1]?.getD 0), .int .i64 (A.own.prev[2]?.getD 0), .int .i64 (A.own.prev[3]?.getD 0), .slice (some ⟨g2, 0, none⟩) A.n A.n, .int .i64 (A.id[0]?.getD 0), .int .i64 (A.id[1]?.getD 0), .int .i64 (A.id[2]?.getD 0), .int .i64 (A.id[3]?.getD 0), .slice va A.k vc, .int .i64 (ui[0]?.getD 0), .int .i64 (ui[1]?.getD 0), .int .i64 (ui[2]?.getD 0), .int .i64 (ui[3]?.getD 0), .slice ua uk uc, .slice ta tn tc, .bool A.agr, .bool A.chg]) := blk_range m3
  have T1 : Hid (w5.there w3.heap.size 14 5) := blk_there' k5 (by simp)
  have T2 : Hid (M3.there w.heap.size 0 22) := blk_there' q2 (by simp)
  have c19 : M1.cell? ⟨w3.heap.size, 19, none⟩ = some (.slice none 0 0) := blk_cell m1 19
  have f19 : M1.frozen? ⟨w3.heap.size, 19, none⟩ = false := frozen_of_row M1 _ _ _ _ m1
  have c20 : M2.cell? ⟨w3.heap.size, 20, none⟩ = some (.bool false) := blk_cell m2 20
  have f20 : M2.frozen? ⟨w3.heap.size, 20, none⟩ = false := frozen_of_row M2 _ _ _ _ m2
  have HFin : Hid (∃ S : Si, (Ending.returned (.agg [.slice (some ⟨g1, 0, none⟩) A.n A.n, .int .i64 A.own.cid, .int .i64 A.own.rev, .int .i64 A.own.top, .int .i64 (A.own.prev[0]?.getD 0), .int .i64 (A.own.prev[1]?.getD 0), .int .i64 (A.own.prev[2]?.getD 0), .int .i64 (A.own.prev[3]?.getD 0), .slice (some ⟨g2, 0, none⟩) A.n A.n, .int .i64 (A.id[0]?.getD 0), .int .i64 (A.id[1]?.getD 0), .int .i64 (A.id[2]?.getD 0), .int .i64 (A.id[3]?.getD 0), .slice va A.k vc, .int .i64 (ui[0]?.getD 0), .int .i64 (ui[1]?.getD 0), .int .i64 (ui[2]?.getD 0), .int .i64 (ui[3]?.getD 0), .slice ua uk uc, .slice ta tn tc, .bool A.agr, .bool A.chg].toArray)) = .returned (.agg S.cs.toArray) ∧ So w.heap.size S M4 ∧ S.sg = A.sg ∧ Below w.heap.size w M4) := by
    have e1 : Below w2.heap.size w2 w5 := bstep (bstep Ho3.out.2 HK4.out.2) hb5
    have e3 : Below w3.heap.size w3 w5 := bstep HK4.out.2 hb5
    have r1 := ((Hfacts.out.1.still e1).keep kk1 (fun e => blk_ne (Hfacts.out.1.still e1) k5 (by decide) e)).keep kk2 (fun e => blk_ne ((Hfacts.out.1.still e1).keep kk1 (fun e => blk_ne (Hfacts.out.1.still e1) k5 (by decide) e)) q2 (by decide) e)
    have r2 := ((Hfacts.out.2.1.still e1).keep kk1 (fun e => blk_ne (Hfacts.out.2.1.still e1) k5 (by decide) e)).keep kk2 (fun e => blk_ne ((Hfacts.out.2.1.still e1).keep kk1 (fun e => blk_ne (Hfacts.out.2.1.still e1) k5 (by decide) e)) q2 (by decide) e)
    have o1 := kk1.owns (own_still Ho3.out.1 e3) (own_ne (own_still Ho3.out.1 e3) k5 (by decide))
    have o1' := kk2.owns o1 (own_ne o1 q2 (by decide))
    have o2 := kk1.owns ho5 (own_ne ho5 k5 (by decide))
    have o2' := kk2.owns o2 (own_ne o2 q2 (by decide))
    have o3 := kk1.owns ho6 (own_ne ho6 k5 (by decide))
    have o3' := kk2.owns o3 (own_ne o3 q2 (by decide))
    have hz1 : w.heap.size ≤ W1.heap.size := HB1.out.size
    have hz2 : g2 < w2.heap.size := lt_heap Hfacts.out.2.1
    have hz3 : W1.heap.size ≤ w2.heap.size := Hfacts.out.2.2.size
    have hz4 : w2.heap.size ≤ w3.heap.size := Ho3.out.2.size
    have hz5 : w3.heap.size ≤ W4.heap.size := HK4.out.2.size
    have hg := Hg.out
    have hvl : ∀ j, (Value.slice va A.k vc).ownBlock = some j → w2.heap.size ≤ j ∧ j < w3.heap.size := fun j hj => World.ownsRow.lt Ho3.out.1 j hj
    have hul : ∀ j, (Value.slice ua uk uc).ownBlock = some j → W4.heap.size ≤ j := fun j hj => (World.ownsRow.lt ho5 j hj).1
    have htl : ∀ j, (Value.slice ta tn tc).ownBlock = some j → W4.heap.size ≤ j := fun j hj => (World.ownsRow.lt ho6 j hj).1
    have hn16 := Hv.out.n16
    refine ⟨⟨A.pq g1 g2, A.id, va, A.k, vc, A.ms, ui, ua, uk, uc, um, ta, tn, tc, ts, A.agr, A.chg⟩, rfl, ⟨?_, ?_, own_lower o1' (by omega), own_lower o2' (by omega), own_lower o3' (by omega), fun j h1 h2 => ?_, fun j h1 h2 => ?_, fun j h1 h2 => ?_, fun j h1 h2 => ?_, (pq_rd Hv.out g1 g2 r1 r2).l, HA.out.il, HA.out.ml.2, hu4, huk, htn, by show A.n ≤ 16; omega, by show A.n ≤ 16; omega⟩, ?_, ?_⟩
    · exact rw_own r1 (by show (A.own.set.take A.n).length = A.n; have := Hv.out.ol.ls; rw [List.length_take]; omega) (by omega) (by show A.n ≤ 16; omega)
    · exact rw_own r2 (by show (A.own.vec.take A.n).length = A.n; have := Hv.out.ol.lv; rw [List.length_take]; omega) (by omega) (by show A.n ≤ 16; omega)
    · have e1 : some g1 = some j := h1
      have e2 : some g2 = some j := h2
      simp at e1 e2
      omega
    · have e1 : some g1 = some j := h1
      simp at e1
      have := htl j h2
      omega
    · have e1 : some g2 = some j := h1
      simp at e1
      have := htl j h2
      omega
    · have := hvl j h1
      have := hul j h2
      omega
    · unfold Si.sg Ag.sg
      rw [← hui, ← hum, ← hts]
      rfl
    · have b5 : Below w.heap.size w w5 := bstep HB1.out B15
      exact (b5.trans (kk1.below b5.size (fun k hk e => by omega))).trans (kk2.below (Nat.le_trans b5.size kk1.size) (fun k hk e => by omega))
  clear Hfacts Hg Ho3 HK4 ho5 ho6 huk htn hu4 hui hum hts hb5 k5 m1 m2 m3 kk1 hlt1 B15 q2 kk2 kk1'
  go_wp2_with (first
    | (refine store_midL 42 (.tmp 17) (.tmp 14) (L := [.int .i64 (ui[0]?.getD 0), .int .i64 (ui[1]?.getD 0), .int .i64 (ui[2]?.getD 0), .int .i64 (ui[3]?.getD 0), .slice ua uk uc]) T1.out info_view (by simp [Value.oneCell']) rfl rfl rfl rfl ?_; rw [hM1])
    | (refine load_mid 50 (.tmp 3) R3.out _ Try.underlying50 rfl (by kernel_rfl) rfl rfl rfl ?_)
    | (refine store_midL 50 (.tmp 2) (.tmp 20) (L := [.slice (some ⟨g1, 0, none⟩) A.n A.n, .int .i64 A.own.cid, .int .i64 A.own.rev, .int .i64 A.own.top, .int .i64 (A.own.prev[0]?.getD 0), .int .i64 (A.own.prev[1]?.getD 0), .int .i64 (A.own.prev[2]?.getD 0), .int .i64 (A.own.prev[3]?.getD 0), .slice (some ⟨g2, 0, none⟩) A.n A.n, .int .i64 (A.id[0]?.getD 0), .int .i64 (A.id[1]?.getD 0), .int .i64 (A.id[2]?.getD 0), .int .i64 (A.id[3]?.getD 0), .slice va A.k vc, .int .i64 (ui[0]?.getD 0), .int .i64 (ui[1]?.getD 0), .int .i64 (ui[2]?.getD 0), .int .i64 (ui[3]?.getD 0), .slice ua uk uc, .slice ta tn tc, .bool A.agr, .bool A.chg]) T2.out info_sight (by simp [Value.oneCell']) rfl rfl rfl rfl ?_; rw [hM4])
    | fail)
  (try simp only [Exit.inBlock, Exit.then])
  refine bodyPost_ret (v := .agg [.slice (some ⟨g1, 0, none⟩) A.n A.n, .int .i64 A.own.cid, .int .i64 A.own.rev, .int .i64 A.own.top, .int .i64 (A.own.prev[0]?.getD 0), .int .i64 (A.own.prev[1]?.getD 0), .int .i64 (A.own.prev[2]?.getD 0), .int .i64 (A.own.prev[3]?.getD 0), .slice (some ⟨g2, 0, none⟩) A.n A.n, .int .i64 (A.id[0]?.getD 0), .int .i64 (A.id[1]?.getD 0), .int .i64 (A.id[2]?.getD 0), .int .i64 (A.id[3]?.getD 0), .slice va A.k vc, .int .i64 (ui[0]?.getD 0), .int .i64 (ui[1]?.getD 0), .int .i64 (ui[2]?.getD 0), .int .i64 (ui[3]?.getD 0), .slice ua uk uc, .slice ta tn tc, .bool A.agr, .bool A.chg].toArray) ?_ ?_ ?_
  · exact results_cell_row rfl _ _ w.heap.size 50 _ (0, 0) _ rfl m4 Try.underlying50 rfl (by kernel_rfl)
  · rfl
  · exact HFin.out
end
end Go.Proofs.Ytdegjhkjmgimpaa.Ms
