import Derived.Test.YtdegjhkjmgimpaaV34
namespace Go.Proofs.Ytdegjhkjmgimpaa.Mb
open Go.RowKit Oe
set_option linter.unusedVariables false
set_option maxRecDepth 100000
set_option linter.unusedSimpArgs false
section
variable {A A' : Ag} {w w' W : World} {B : Nat} {T : Int}
theorem info_sight : (Try.prog.info? 50).map (·.size) = some 22 := by kernel_rfl
theorem store_midL {ops : Array Oper} {rest : List Oper} {o : Oper} {a : Act} {Q : Exit → Act → World → Prop} (ty : TypeId) (x y : Operand) {b off : Nat} {L : List Value} (ht : w.there b off L.length) (hi : (Try.prog.info? ty).map (·.size) = some L.length) (h1 : ∀ u ∈ L, u.oneCell' = true)
    (ho : o.op = .store ty x y) (hx : a.eval x = .pointer (some ⟨b, off, none⟩)) (hy : a.eval y = .agg L.toArray) (hw : Region.wanted o (yielded ops a.tmps) = true) (h : wpList Try.prog ops Q rest (a.put o.dst undef) (w.setCells b off L)) : wpList Try.prog ops Q (o :: rest) a w :=
  wpList_step fun K hK => by
    rw [if_pos hw]
    exact wp_store_mid ty x y ho b off _ hx hy (by simpa using ht) (by simpa using hi) (all_oneCell_toArray h1) (hK _ _ (by simpa using h))
theorem blk_there' {k t o n : Nat} {C : Array Value} (h : w.heap[k]? = some (.cells C t (0, 0))) (hn : o + n ≤ C.size) : w.there k o n := fun j hj => ⟨by rw [blk_cell h]; simp [show o + j < C.size by omega], frozen_of_row w _ _ _ _ h⟩
theorem view_gen {inc : Int} (h : A.Ok w B T) (hv : A.Iv inc) : Calls Try.prog 18 #[.pointer (some ⟨A.b, 0, none⟩)] w fun e w' => ∃ va vc, e = .returned (.agg [.int .i64 (A.id[0]?.getD 0), .int .i64 (A.id[1]?.getD 0), .int .i64 (A.id[2]?.getD 0), .int .i64 (A.id[3]?.getD 0), .slice va A.k vc].toArray) ∧ w'.ownsRow 0 79 3 (.slice va A.k vc) A.k (ints A.ms) ∧ Below w.heap.size w w' := by
  rcases hv.vw with ⟨h1, h2, h3, h4⟩ | ⟨_, h2, g, c, h3⟩
  · refine (view_nil h h2).mono ?_
    rintro e w2 ⟨rfl, hb⟩
    refine ⟨none, 0, by rw [h3]; rfl, ?_, hb⟩
    rw [h3, h4]
    exact ⟨rfl, .inl ⟨rfl, rfl⟩⟩
  · refine (view_any h g c h3 h2).mono ?_
    rintro e w2 ⟨g', c', rfl, ho, hb⟩
    exact ⟨some ⟨g', 0, none⟩, c', rfl, own_base ho, hb⟩
theorem agreed_gen {inc : Int} (h : A.Ok w B 4611686018427387903) (hv : A.Iv inc) : Calls Try.prog 17 #[.pointer (some ⟨A.b, 0, none⟩)] w fun e w' => ∃ ui ua uk uc um ta tn tc ts, e = .returned (.tuple #[.agg [.int .i64 (ui[0]?.getD 0), .int .i64 (ui[1]?.getD 0), .int .i64 (ui[2]?.getD 0), .int .i64 (ui[3]?.getD 0), .slice ua uk uc].toArray, .slice ta tn tc, .bool A.agr]) ∧ w'.ownsRow 0 79 3 (.slice ua uk uc) uk (ints um) ∧ w'.ownsRow 0 3 1 (.slice ta tn tc) tn (ints ts) ∧ uk ≤ 16 ∧ tn ≤ 16 ∧ ui.length = 4 ∧ ui = (if A.agr then A.avI else [0, 0, 0, 0]) ∧ um = (if A.agr then A.msL A.mids else []) ∧ ts = (if A.agr then A.wl A.tog else []) ∧ Below w.heap.size w w' := by
  cases hg : A.agr with
  | false =>
    refine (agreed_no h hg).mono ?_
    rintro e w2 ⟨rfl, hb⟩
    exact ⟨[0, 0, 0, 0], none, 0, 0, [], none, 0, 0, [], rfl, ⟨rfl, .inl ⟨rfl, rfl⟩⟩, ⟨rfl, .inl ⟨rfl, rfl⟩⟩, by omega, by omega, rfl, rfl, rfl, rfl, hb⟩
  | true =>
    refine (agreed_yes h (by omega) (by rw [hv.set]; have := hv.inc1; omega) hg).mono ?_
    rintro e w2 ⟨g, c, v, rfl, ho1, ho2, _, hb⟩
    obtain ⟨ta, tc, rfl⟩ := own_slice ho2
    have htn : (A.wl A.tog).length ≤ 16 := by
      unfold Ag.wl Ag.wlN
      rw [List.length_map]
      exact Nat.le_trans (List.length_filter_le _ _) (by rw [List.length_range]; exact hv.n16.2.1)
    exact ⟨A.avI, some ⟨g, 0, none⟩, A.mids.length, c, A.msL A.mids, ta, _, tc, A.wl A.tog, rfl, own_base ho1, own_base ho2, Nat.le_trans (mids_len A) hv.n16.2.1, htn, rfl, rfl, rfl, rfl, hb⟩
theorem build_stepL {ops : Array Oper} {rest : List Oper} {o : Oper} {a : Act} {Q : Exit → Act → World → Prop} (t : TypeId) (i0 i1 i2 : Nat) (x0 x1 x2 : Operand) (v0 v1 v2 : Value) (cells : Array Value) (hb : Try.prog.built t [(i0, v0), (i1, v1), (i2, v2)] = some cells) (h0 : a.eval x0 = v0) (h1 : a.eval x1 = v1) (h2 : a.eval x2 = v2) (ho : o.op = .build t #[(i0, x0), (i1, x1), (i2, x2)]) (hg : o.guard = none) (h : wpList Try.prog ops Q rest (a.put o.dst (.agg cells)) w) : wpList Try.prog ops Q (o :: rest) a w := by
  have e : (((#[(i0, x0), (i1, x1), (i2, x2)] : Array (Nat × Operand)).map fun (i, x) => (i, a.eval x)).toList) = [(i0, v0), (i1, v1), (i2, v2)] := by simp [h0, h1, h2]
  refine wpList_build hg t _ ho (by rw [e, hb]; rfl) ?_
  rw [e, hb]
  exact h
theorem own_ne {b t s n k t' : Nat} {v : Value} {l : List Value} {C : Array Value} (h : w.ownsRow b t s v n l) (hk : w.heap[k]? = some (.cells C t' (0, 0))) (ht : t ≠ t') : ∀ g, v.ownBlock = some g → ¬ g = k := fun g hg e => by
  rcases h.2 with ⟨h1, _⟩ | ⟨g', cap, cur, h1, _, h3, _⟩
  · rw [h1] at hg; cases hg
  · rw [h1] at hg
    cases hg
    exact blk_ne h3 hk ht e
def NoI (w : World) (P : Nat → Prop) : Prop := ∀ g, P g → ∀ C : Array Value, w.heap[g]? ≠ some (.cells C 3 (0, 0)) ∧ w.heap[g]? ≠ some (.cells C 79 (0, 0))
def Si.Kp (S : Si) (w : World) : Prop := ∀ (w2 : World) (P : Nat → Prop), NoI w P → Kept w w2 P → S.Rd w2
theorem Si.Kp.rd {S : Si} (h : S.Kp w) : S.Rd w := h w (fun _ => False) (fun _ hh => hh.elim) (Kept.refl _ _)
theorem Si.Kp.keep {S : Si} {P0 : Nat → Prop} (h : S.Kp w) (hk : Kept w w' P0) (h0 : NoI w P0) : S.Kp w' := fun w2 P hP hk2 => by
  refine h w2 (fun j => P0 j ∨ P j) (fun g hg C => ?_) ((hk.mono (fun _ _ h => .inl h)).trans (hk2.mono (fun _ _ h => .inr h)))
  by_cases h1 : P0 g
  · exact h0 g h1 C
  · have h2 : P g := hg.elim (fun h => absurd h h1) id
    have h3 := hP g h2 C
    refine ⟨fun e => h3.1 ?_, fun e => h3.2 ?_⟩
    · exact hk.obj e h1
    · exact hk.obj e h1
theorem Si.Kp.still {S : Si} (h : S.Kp w) (hb : Below w.heap.size w w') : S.Kp w' := h.keep (Kept.ofBelow hb (fun _ => False)) (fun _ hh => hh.elim)
theorem own_noI {b s n t : Nat} {v : Value} {l : List Value} {P : Nat → Prop} (h : w.ownsRow b t s v n l) (hP : NoI w P) (ht : t = 3 ∨ t = 79) : ∀ g, v.ownBlock = some g → ¬ P g := fun g hg hp => by
  rcases h.2 with ⟨h1, _⟩ | ⟨g', cap, cur, h1, _, h3, _⟩
  · rw [h1] at hg; cases hg
  · rw [h1] at hg
    cases hg
    rcases ht with rfl | rfl
    · exact (hP _ hp cur).1 h3
    · exact (hP _ hp cur).2 h3
theorem Si.one (S : Si) : ∀ u ∈ S.cs, u.oneCell' = true := by
  unfold Si.cs
  simp [Value.oneCell']
set_option maxHeartbeats 8000000 in
theorem look_any {inc : Int} (h : A.Ok w B 4611686018427387903) (hv : A.Iv inc) : Calls Try.prog 9 #[.pointer (some ⟨A.b, 0, none⟩)] w fun e w' => ∃ S : Si, e = .returned (.agg S.cs.toArray) ∧ S.Kp w' ∧ S.sg = A.sg ∧ Below w.heap.size w w' := by
  generalize hW1 : w.alloc (.cells [.slice none 0 0, .int .i64 0, .int .i64 0, .int .i64 0, .int .i64 0, .int .i64 0, .int .i64 0, .int .i64 0, .slice none 0 0, .int .i64 0, .int .i64 0, .int .i64 0, .int .i64 0, .slice none 0 0, .int .i64 0, .int .i64 0, .int .i64 0, .int .i64 0, .slice none 0 0, .slice none 0 0, .bool false, .bool false].toArray 50) = W1
  have b1 : Below w.heap.size w W1 := by rw [← hW1]; exact balloc (Below.refl _ _)
  have k1 : W1.heap[w.heap.size]? = some (.cells [.slice none 0 0, .int .i64 0, .int .i64 0, .int .i64 0, .int .i64 0, .int .i64 0, .int .i64 0, .int .i64 0, .slice none 0 0, .int .i64 0, .int .i64 0, .int .i64 0, .int .i64 0, .slice none 0 0, .int .i64 0, .int .i64 0, .int .i64 0, .int .i64 0, .slice none 0 0, .slice none 0 0, .bool false, .bool false].toArray 50 (0, 0)) := by rw [← hW1]; exact heap_alloc_new w _
  have HP : Hid (Calls Try.prog 6 #[.pointer (some ⟨A.b, 0, none⟩)] W1 fun e w' => ∃ g1 g2, e = .returned (.agg [.slice (some ⟨g1, 0, none⟩) A.n A.n, .int .i64 A.own.cid, .int .i64 A.own.rev, .int .i64 A.own.top, .int .i64 (A.own.prev[0]?.getD 0), .int .i64 (A.own.prev[1]?.getD 0), .int .i64 (A.own.prev[2]?.getD 0), .int .i64 (A.own.prev[3]?.getD 0), .slice (some ⟨g2, 0, none⟩) A.n A.n].toArray) ∧ W1.heap.size ≤ g1 ∧ g1 < g2 ∧ Rw w' g1 3 (A.own.set.take A.n) ∧ Rw w' g2 3 (A.own.vec.take A.n) ∧ Below W1.heap.size W1 w') := proposal_any (h.still b1)
  have HA : Hid (A.Ok W1 B 4611686018427387903) := h.still b1
  have Hv : Hid (A.Iv inc) := hv
  have HB1 : Hid (Below w.heap.size w W1) := b1
  have HK1 : Hid (W1.heap[w.heap.size]? = some (.cells [.slice none 0 0, .int .i64 0, .int .i64 0, .int .i64 0, .int .i64 0, .int .i64 0, .int .i64 0, .int .i64 0, .slice none 0 0, .int .i64 0, .int .i64 0, .int .i64 0, .int .i64 0, .slice none 0 0, .int .i64 0, .int .i64 0, .int .i64 0, .int .i64 0, .slice none 0 0, .slice none 0 0, .bool false, .bool false].toArray 50 (0, 0))) := k1
  simp only [List.toArray] at hW1
  clear h hv b1 k1
  go_enter Try.func9, Try.ntmps9
  go_wp2_with (fail)
  refine HP.out.mono ?_
  rintro e w2 ⟨g1, g2, rfl, hg1, hg12, r1, r2, hb2⟩
  have HV := view_gen (HA.out.still hb2) Hv.out
  clear HP hW1
  go_wp2_with (fail)
  refine HV.mono ?_
  rintro e w3 ⟨va, vc, rfl, ho3, hb3⟩
  have HC := changing_any ((HA.out.still hb2).still hb3)
  clear HV
  have hBu : Try.prog.built 50 [(0, .agg [.slice (some ⟨g1, 0, none⟩) A.n A.n, .int .i64 A.own.cid, .int .i64 A.own.rev, .int .i64 A.own.top, .int .i64 (A.own.prev[0]?.getD 0), .int .i64 (A.own.prev[1]?.getD 0), .int .i64 (A.own.prev[2]?.getD 0), .int .i64 (A.own.prev[3]?.getD 0), .slice (some ⟨g2, 0, none⟩) A.n A.n].toArray), (1, .agg [.int .i64 (A.id[0]?.getD 0), .int .i64 (A.id[1]?.getD 0), .int .i64 (A.id[2]?.getD 0), .int .i64 (A.id[3]?.getD 0), .slice va A.k vc].toArray), (5, .bool A.chg)] = some [.slice (some ⟨g1, 0, none⟩) A.n A.n, .int .i64 A.own.cid, .int .i64 A.own.rev, .int .i64 A.own.top, .int .i64 (A.own.prev[0]?.getD 0), .int .i64 (A.own.prev[1]?.getD 0), .int .i64 (A.own.prev[2]?.getD 0), .int .i64 (A.own.prev[3]?.getD 0), .slice (some ⟨g2, 0, none⟩) A.n A.n, .int .i64 (A.id[0]?.getD 0), .int .i64 (A.id[1]?.getD 0), .int .i64 (A.id[2]?.getD 0), .int .i64 (A.id[3]?.getD 0), .slice va A.k vc, .int .i64 0, .int .i64 0, .int .i64 0, .int .i64 0, .slice none 0 0, .slice none 0 0, .bool false, .bool A.chg].toArray := by kernel_rfl
  have HBu : Hid (Try.prog.built 50 [(0, .agg [.slice (some ⟨g1, 0, none⟩) A.n A.n, .int .i64 A.own.cid, .int .i64 A.own.rev, .int .i64 A.own.top, .int .i64 (A.own.prev[0]?.getD 0), .int .i64 (A.own.prev[1]?.getD 0), .int .i64 (A.own.prev[2]?.getD 0), .int .i64 (A.own.prev[3]?.getD 0), .slice (some ⟨g2, 0, none⟩) A.n A.n].toArray), (1, .agg [.int .i64 (A.id[0]?.getD 0), .int .i64 (A.id[1]?.getD 0), .int .i64 (A.id[2]?.getD 0), .int .i64 (A.id[3]?.getD 0), .slice va A.k vc].toArray), (5, .bool A.chg)] = some [.slice (some ⟨g1, 0, none⟩) A.n A.n, .int .i64 A.own.cid, .int .i64 A.own.rev, .int .i64 A.own.top, .int .i64 (A.own.prev[0]?.getD 0), .int .i64 (A.own.prev[1]?.getD 0), .int .i64 (A.own.prev[2]?.getD 0), .int .i64 (A.own.prev[3]?.getD 0), .slice (some ⟨g2, 0, none⟩) A.n A.n, .int .i64 (A.id[0]?.getD 0), .int .i64 (A.id[1]?.getD 0), .int .i64 (A.id[2]?.getD 0), .int .i64 (A.id[3]?.getD 0), .slice va A.k vc, .int .i64 0, .int .i64 0, .int .i64 0, .int .i64 0, .slice none 0 0, .slice none 0 0, .bool false, .bool A.chg].toArray) := hBu
  clear hBu
  generalize hZ4 : w3.alloc (.cells [.slice none 0 0, .int .i64 0, .int .i64 0, .int .i64 0, .int .i64 0, .int .i64 0, .int .i64 0, .int .i64 0, .slice none 0 0, .int .i64 0, .int .i64 0, .int .i64 0, .int .i64 0, .slice none 0 0, .int .i64 0, .int .i64 0, .int .i64 0, .int .i64 0, .slice none 0 0, .slice none 0 0, .bool false, .bool false].toArray 50) = Z4
  have bz4 : Below w3.heap.size w3 Z4 := by rw [← hZ4]; exact balloc (Below.refl _ _)
  have kz4 : Z4.heap[w3.heap.size]? = some (.cells [.slice none 0 0, .int .i64 0, .int .i64 0, .int .i64 0, .int .i64 0, .int .i64 0, .int .i64 0, .int .i64 0, .slice none 0 0, .int .i64 0, .int .i64 0, .int .i64 0, .int .i64 0, .slice none 0 0, .int .i64 0, .int .i64 0, .int .i64 0, .int .i64 0, .slice none 0 0, .slice none 0 0, .bool false, .bool false].toArray 50 (0, 0)) := by rw [← hZ4]; exact heap_alloc_new w3 _
  have T0 : Hid (Z4.there w3.heap.size 0 22) := blk_there' kz4 (by simp)
  generalize hW4 : Z4.setCells w3.heap.size 0 [.slice (some ⟨g1, 0, none⟩) A.n A.n, .int .i64 A.own.cid, .int .i64 A.own.rev, .int .i64 A.own.top, .int .i64 (A.own.prev[0]?.getD 0), .int .i64 (A.own.prev[1]?.getD 0), .int .i64 (A.own.prev[2]?.getD 0), .int .i64 (A.own.prev[3]?.getD 0), .slice (some ⟨g2, 0, none⟩) A.n A.n, .int .i64 (A.id[0]?.getD 0), .int .i64 (A.id[1]?.getD 0), .int .i64 (A.id[2]?.getD 0), .int .i64 (A.id[3]?.getD 0), .slice va A.k vc, .int .i64 0, .int .i64 0, .int .i64 0, .int .i64 0, .slice none 0 0, .slice none 0 0, .bool false, .bool A.chg] = W4
  have b4 : Below w3.heap.size w3 W4 := by rw [← hW4]; exact bsets (Nat.le_refl _) _ 0 bz4
  have k4 : W4.heap[w3.heap.size]? = some (.cells [.slice (some ⟨g1, 0, none⟩) A.n A.n, .int .i64 A.own.cid, .int .i64 A.own.rev, .int .i64 A.own.top, .int .i64 (A.own.prev[0]?.getD 0), .int .i64 (A.own.prev[1]?.getD 0), .int .i64 (A.own.prev[2]?.getD 0), .int .i64 (A.own.prev[3]?.getD 0), .slice (some ⟨g2, 0, none⟩) A.n A.n, .int .i64 (A.id[0]?.getD 0), .int .i64 (A.id[1]?.getD 0), .int .i64 (A.id[2]?.getD 0), .int .i64 (A.id[3]?.getD 0), .slice va A.k vc, .int .i64 0, .int .i64 0, .int .i64 0, .int .i64 0, .slice none 0 0, .slice none 0 0, .bool false, .bool A.chg].toArray 50 (0, 0)) := by rw [← hW4]; exact sets_whole kz4 rfl
  have HG := agreed_gen (((HA.out.still hb2).still hb3).still b4) Hv.out
  simp only [List.toArray] at hZ4
  have Hfacts : Hid (Rw w2 g1 3 (A.own.set.take A.n) ∧ Rw w2 g2 3 (A.own.vec.take A.n) ∧ Below W1.heap.size W1 w2) := ⟨r1, r2, hb2⟩
  have Ho3 : Hid (w3.ownsRow 0 79 3 (.slice va A.k vc) A.k (ints A.ms) ∧ Below w2.heap.size w2 w3) := ⟨ho3, hb3⟩
  have HK4 : Hid (W4.heap[w3.heap.size]? = some (.cells [.slice (some ⟨g1, 0, none⟩) A.n A.n, .int .i64 A.own.cid, .int .i64 A.own.rev, .int .i64 A.own.top, .int .i64 (A.own.prev[0]?.getD 0), .int .i64 (A.own.prev[1]?.getD 0), .int .i64 (A.own.prev[2]?.getD 0), .int .i64 (A.own.prev[3]?.getD 0), .slice (some ⟨g2, 0, none⟩) A.n A.n, .int .i64 (A.id[0]?.getD 0), .int .i64 (A.id[1]?.getD 0), .int .i64 (A.id[2]?.getD 0), .int .i64 (A.id[3]?.getD 0), .slice va A.k vc, .int .i64 0, .int .i64 0, .int .i64 0, .int .i64 0, .slice none 0 0, .slice none 0 0, .bool false, .bool A.chg].toArray 50 (0, 0)) ∧ Below w3.heap.size w3 W4) := ⟨k4, b4⟩
  clear r1 r2 hb2 ho3 hb3 k4 b4 hg1 hg12 bz4 kz4
  go_wp2_with (fail)
  refine HC.mono ?_
  rintro e w3' ⟨rfl, rfl⟩
  go_wp2_with (first
    | (refine build_stepL 50 0 1 5 (.tmp 5) (.tmp 7) (.tmp 9) _ _ _ _ HBu.out rfl rfl rfl rfl rfl ?_)
    | (refine store_midL 50 (.tmp 3) (.tmp 10) (L := [.slice (some ⟨g1, 0, none⟩) A.n A.n, .int .i64 A.own.cid, .int .i64 A.own.rev, .int .i64 A.own.top, .int .i64 (A.own.prev[0]?.getD 0), .int .i64 (A.own.prev[1]?.getD 0), .int .i64 (A.own.prev[2]?.getD 0), .int .i64 (A.own.prev[3]?.getD 0), .slice (some ⟨g2, 0, none⟩) A.n A.n, .int .i64 (A.id[0]?.getD 0), .int .i64 (A.id[1]?.getD 0), .int .i64 (A.id[2]?.getD 0), .int .i64 (A.id[3]?.getD 0), .slice va A.k vc, .int .i64 0, .int .i64 0, .int .i64 0, .int .i64 0, .slice none 0 0, .slice none 0 0, .bool false, .bool A.chg]) T0.out info_sight (by simp [Value.oneCell']) rfl rfl rfl rfl ?_; rw [hW4])
    | fail)
  refine HG.mono ?_
  rintro e w5 ⟨ui, ua, uk, uc, um, ta, tn, tc, ts, rfl, ho5, ho6, huk, htn, hu4, hui, hum, hts, hb5⟩
  clear HG HC hW4 hZ4 HBu T0
  have k5 := (hb5.block _ (lt_heap HK4.out.1)).trans HK4.out.1
  generalize hM1 : w5.setCells w3.heap.size 14 [.int .i64 (ui[0]?.getD 0), .int .i64 (ui[1]?.getD 0), .int .i64 (ui[2]?.getD 0), .int .i64 (ui[3]?.getD 0), .slice ua uk uc] = M1
  have m1 : M1.heap[w3.heap.size]? = some (.cells [.slice (some ⟨g1, 0, none⟩) A.n A.n, .int .i64 A.own.cid, .int .i64 A.own.rev, .int .i64 A.own.top, .int .i64 (A.own.prev[0]?.getD 0), .int .i64 (A.own.prev[1]?.getD 0), .int .i64 (A.own.prev[2]?.getD 0), .int .i64 (A.own.prev[3]?.getD 0), .slice (some ⟨g2, 0, none⟩) A.n A.n, .int .i64 (A.id[0]?.getD 0), .int .i64 (A.id[1]?.getD 0), .int .i64 (A.id[2]?.getD 0), .int .i64 (A.id[3]?.getD 0), .slice va A.k vc, .int .i64 (ui[0]?.getD 0), .int .i64 (ui[1]?.getD 0), .int .i64 (ui[2]?.getD 0), .int .i64 (ui[3]?.getD 0), .slice ua uk uc, .slice none 0 0, .bool false, .bool A.chg].toArray 50 (0, 0)) := by rw [← hM1]; exact sets_list [.int .i64 (ui[0]?.getD 0), .int .i64 (ui[1]?.getD 0), .int .i64 (ui[2]?.getD 0), .int .i64 (ui[3]?.getD 0), .slice ua uk uc] 14 w5 [.slice (some ⟨g1, 0, none⟩) A.n A.n, .int .i64 A.own.cid, .int .i64 A.own.rev, .int .i64 A.own.top, .int .i64 (A.own.prev[0]?.getD 0), .int .i64 (A.own.prev[1]?.getD 0), .int .i64 (A.own.prev[2]?.getD 0), .int .i64 (A.own.prev[3]?.getD 0), .slice (some ⟨g2, 0, none⟩) A.n A.n, .int .i64 (A.id[0]?.getD 0), .int .i64 (A.id[1]?.getD 0), .int .i64 (A.id[2]?.getD 0), .int .i64 (A.id[3]?.getD 0), .slice va A.k vc, .int .i64 0, .int .i64 0, .int .i64 0, .int .i64 0, .slice none 0 0, .slice none 0 0, .bool false, .bool A.chg] k5 (by simp)
  generalize hM2 : M1.setCell ⟨w3.heap.size, 19, none⟩ (.slice ta tn tc) = M2
  have m2 : M2.heap[w3.heap.size]? = some (.cells [.slice (some ⟨g1, 0, none⟩) A.n A.n, .int .i64 A.own.cid, .int .i64 A.own.rev, .int .i64 A.own.top, .int .i64 (A.own.prev[0]?.getD 0), .int .i64 (A.own.prev[1]?.getD 0), .int .i64 (A.own.prev[2]?.getD 0), .int .i64 (A.own.prev[3]?.getD 0), .slice (some ⟨g2, 0, none⟩) A.n A.n, .int .i64 (A.id[0]?.getD 0), .int .i64 (A.id[1]?.getD 0), .int .i64 (A.id[2]?.getD 0), .int .i64 (A.id[3]?.getD 0), .slice va A.k vc, .int .i64 (ui[0]?.getD 0), .int .i64 (ui[1]?.getD 0), .int .i64 (ui[2]?.getD 0), .int .i64 (ui[3]?.getD 0), .slice ua uk uc, .slice ta tn tc, .bool false, .bool A.chg].toArray 50 (0, 0)) := by rw [← hM2]; exact blk_set m1 rfl
  generalize hM3 : M2.setCell ⟨w3.heap.size, 20, none⟩ (.bool A.agr) = M3
  have m3 : M3.heap[w3.heap.size]? = some (.cells [.slice (some ⟨g1, 0, none⟩) A.n A.n, .int .i64 A.own.cid, .int .i64 A.own.rev, .int .i64 A.own.top, .int .i64 (A.own.prev[0]?.getD 0), .int .i64 (A.own.prev[1]?.getD 0), .int .i64 (A.own.prev[2]?.getD 0), .int .i64 (A.own.prev[3]?.getD 0), .slice (some ⟨g2, 0, none⟩) A.n A.n, .int .i64 (A.id[0]?.getD 0), .int .i64 (A.id[1]?.getD 0), .int .i64 (A.id[2]?.getD 0), .int .i64 (A.id[3]?.getD 0), .slice va A.k vc, .int .i64 (ui[0]?.getD 0), .int .i64 (ui[1]?.getD 0), .int .i64 (ui[2]?.getD 0), .int .i64 (ui[3]?.getD 0), .slice ua uk uc, .slice ta tn tc, .bool A.agr, .bool A.chg].toArray 50 (0, 0)) := by rw [← hM3]; exact blk_set m2 rfl
  have kk1 : Kept w5 M3 (fun j => j = w3.heap.size) := by
    rw [← hM3, ← hM2, ← hM1]
    exact ((ksets (P := fun j => j = w3.heap.size) (b := w3.heap.size) rfl [.int .i64 (ui[0]?.getD 0), .int .i64 (ui[1]?.getD 0), .int .i64 (ui[2]?.getD 0), .int .i64 (ui[3]?.getD 0), .slice ua uk uc] 14 w5).trans (kset _ _ _ _ rfl)).trans (kset _ _ _ _ rfl)
  have hlt1 : w.heap.size < w3.heap.size := by
    have h1 := lt_heap HK1.out
    have h2 := Hfacts.out.2.2.size
    have h3 := Ho3.out.2.size
    omega
  have B15 : Below W1.heap.size W1 w5 := bstep (bstep (bstep Hfacts.out.2.2 Ho3.out.2) HK4.out.2) hb5
  have q2 : M3.heap[w.heap.size]? = some (.cells [.slice none 0 0, .int .i64 0, .int .i64 0, .int .i64 0, .int .i64 0, .int .i64 0, .int .i64 0, .int .i64 0, .slice none 0 0, .int .i64 0, .int .i64 0, .int .i64 0, .int .i64 0, .slice none 0 0, .int .i64 0, .int .i64 0, .int .i64 0, .int .i64 0, .slice none 0 0, .slice none 0 0, .bool false, .bool false].toArray 50 (0, 0)) := kk1.obj ((B15.block _ (lt_heap HK1.out)).trans HK1.out) (by omega)
  generalize hM4 : M3.setCells w.heap.size 0 [.slice (some ⟨g1, 0, none⟩) A.n A.n, .int .i64 A.own.cid, .int .i64 A.own.rev, .int .i64 A.own.top, .int .i64 (A.own.prev[0]?.getD 0), .int .i64 (A.own.prev[1]?.getD 0), .int .i64 (A.own.prev[2]?.getD 0), .int .i64 (A.own.prev[3]?.getD 0), .slice (some ⟨g2, 0, none⟩) A.n A.n, .int .i64 (A.id[0]?.getD 0), .int .i64 (A.id[1]?.getD 0), .int .i64 (A.id[2]?.getD 0), .int .i64 (A.id[3]?.getD 0), .slice va A.k vc, .int .i64 (ui[0]?.getD 0), .int .i64 (ui[1]?.getD 0), .int .i64 (ui[2]?.getD 0), .int .i64 (ui[3]?.getD 0), .slice ua uk uc, .slice ta tn tc, .bool A.agr, .bool A.chg] = M4
  have m4 : M4.heap[w.heap.size]? = some (.cells [.slice (some ⟨g1, 0, none⟩) A.n A.n, .int .i64 A.own.cid, .int .i64 A.own.rev, .int .i64 A.own.top, .int .i64 (A.own.prev[0]?.getD 0), .int .i64 (A.own.prev[1]?.getD 0), .int .i64 (A.own.prev[2]?.getD 0), .int .i64 (A.own.prev[3]?.getD 0), .slice (some ⟨g2, 0, none⟩) A.n A.n, .int .i64 (A.id[0]?.getD 0), .int .i64 (A.id[1]?.getD 0), .int .i64 (A.id[2]?.getD 0), .int .i64 (A.id[3]?.getD 0), .slice va A.k vc, .int .i64 (ui[0]?.getD 0), .int .i64 (ui[1]?.getD 0), .int .i64 (ui[2]?.getD 0), .int .i64 (ui[3]?.getD 0), .slice ua uk uc, .slice ta tn tc, .bool A.agr, .bool A.chg].toArray 50 (0, 0)) := by rw [← hM4]; exact sets_whole q2 rfl
  have kk2 : Kept M3 M4 (fun j => j = w.heap.size) := by rw [← hM4]; exact ksets (P := fun j => j = w.heap.size) (b := w.heap.size) rfl [.slice (some ⟨g1, 0, none⟩) A.n A.n, .int .i64 A.own.cid, .int .i64 A.own.rev, .int .i64 A.own.top, .int .i64 (A.own.prev[0]?.getD 0), .int .i64 (A.own.prev[1]?.getD 0), .int .i64 (A.own.prev[2]?.getD 0), .int .i64 (A.own.prev[3]?.getD 0), .slice (some ⟨g2, 0, none⟩) A.n A.n, .int .i64 (A.id[0]?.getD 0), .int .i64 (A.id[1]?.getD 0), .int .i64 (A.id[2]?.getD 0), .int .i64 (A.id[3]?.getD 0), .slice va A.k vc, .int .i64 (ui[0]?.getD 0), .int .i64 (ui[1]?.getD 0), .int .i64 (ui[2]?.getD 0), .int .i64 (ui[3]?.getD 0), .slice ua uk uc, .slice ta tn tc, .bool A.agr, .bool A.chg] 0 M3
  have kk1' := HK1.out
  have R3 : Hid (M3.rangeAt w3.heap.size 0 [.slice (some ⟨g1, 0, none⟩) A.n A.n, .int .i64 A.own.cid, .int .i64 A.own.rev, .int .i64 A.own.top, .int .i64 (A.own.prev[0]?.getD 0), .int .i64 (A.own.prev[1]?.getD 0), .int .i64 (A.own.prev[2]?.getD 0), .int .i64 (A.own.prev[3]?.getD 0), .slice (some ⟨g2, 0, none⟩) A.n A.n, .int .i64 (A.id[0]?.getD 0), .int .i64 (A.id[1]?.getD 0), .int .i64 (A.id[2]?.getD 0), .int .i64 (A.id[3]?.getD 0), .slice va A.k vc, .int .i64 (ui[0]?.getD 0), .int .i64 (ui[1]?.getD 0), .int .i64 (ui[2]?.getD 0), .int .i64 (ui[3]?.getD 0), .slice ua uk uc, .slice ta tn tc, .bool A.agr, .bool A.chg]) := blk_range m3
  have T1 : Hid (w5.there w3.heap.size 14 5) := blk_there' k5 (by simp)
  have T2 : Hid (M3.there w.heap.size 0 22) := blk_there' q2 (by simp)
  have c19 : M1.cell? ⟨w3.heap.size, 19, none⟩ = some (.slice none 0 0) := blk_cell m1 19
  have f19 : M1.frozen? ⟨w3.heap.size, 19, none⟩ = false := frozen_of_row M1 _ _ _ _ m1
  have c20 : M2.cell? ⟨w3.heap.size, 20, none⟩ = some (.bool false) := blk_cell m2 20
  have f20 : M2.frozen? ⟨w3.heap.size, 20, none⟩ = false := frozen_of_row M2 _ _ _ _ m2
  have HFin : Hid (∃ S : Si, (Ending.returned (.agg [.slice (some ⟨g1, 0, none⟩) A.n A.n, .int .i64 A.own.cid, .int .i64 A.own.rev, .int .i64 A.own.top, .int .i64 (A.own.prev[0]?.getD 0), .int .i64 (A.own.prev[1]?.getD 0), .int .i64 (A.own.prev[2]?.getD 0), .int .i64 (A.own.prev[3]?.getD 0), .slice (some ⟨g2, 0, none⟩) A.n A.n, .int .i64 (A.id[0]?.getD 0), .int .i64 (A.id[1]?.getD 0), .int .i64 (A.id[2]?.getD 0), .int .i64 (A.id[3]?.getD 0), .slice va A.k vc, .int .i64 (ui[0]?.getD 0), .int .i64 (ui[1]?.getD 0), .int .i64 (ui[2]?.getD 0), .int .i64 (ui[3]?.getD 0), .slice ua uk uc, .slice ta tn tc, .bool A.agr, .bool A.chg].toArray)) = .returned (.agg S.cs.toArray) ∧ S.Kp M4 ∧ S.sg = A.sg ∧ Below w.heap.size w M4) := by
    have e1 : Below w2.heap.size w2 w5 := bstep (bstep Ho3.out.2 HK4.out.2) hb5
    have e3 : Below w3.heap.size w3 w5 := bstep HK4.out.2 hb5
    have r1 := ((Hfacts.out.1.still e1).keep kk1 (fun e => blk_ne (Hfacts.out.1.still e1) k5 (by decide) e)).keep kk2 (fun e => blk_ne ((Hfacts.out.1.still e1).keep kk1 (fun e => blk_ne (Hfacts.out.1.still e1) k5 (by decide) e)) q2 (by decide) e)
    have r2 := ((Hfacts.out.2.1.still e1).keep kk1 (fun e => blk_ne (Hfacts.out.2.1.still e1) k5 (by decide) e)).keep kk2 (fun e => blk_ne ((Hfacts.out.2.1.still e1).keep kk1 (fun e => blk_ne (Hfacts.out.2.1.still e1) k5 (by decide) e)) q2 (by decide) e)
    have o1 := kk1.owns (own_still Ho3.out.1 e3) (own_ne (own_still Ho3.out.1 e3) k5 (by decide))
    have o1' := kk2.owns o1 (own_ne o1 q2 (by decide))
    have o2 := kk1.owns ho5 (own_ne ho5 k5 (by decide))
    have o2' := kk2.owns o2 (own_ne o2 q2 (by decide))
    have o3 := kk1.owns ho6 (own_ne ho6 k5 (by decide))
    have o3' := kk2.owns o3 (own_ne o3 q2 (by decide))
    refine ⟨⟨A.pq g1 g2, A.id, va, A.k, vc, A.ms, ui, ua, uk, uc, um, ta, tn, tc, ts, A.agr, A.chg⟩, rfl, fun w2 P hP hk => ⟨pq_rd Hv.out g1 g2 (r1.keep hk (fun e => (hP _ e _).1 r1)) (r2.keep hk (fun e => (hP _ e _).1 r2)), HA.out.il, own_rdM (hk.owns o1' (own_noI o1' hP (.inr rfl))), HA.out.ml.2, hu4, own_rdM (hk.owns o2' (own_noI o2' hP (.inr rfl))), huk, own_rd (hk.owns o3' (own_noI o3' hP (.inl rfl))), by show tn ≤ _; omega⟩, ?_, ?_⟩
    · unfold Si.sg Ag.sg
      rw [← hui, ← hum, ← hts]
      rfl
    · have b5 : Below w.heap.size w w5 := bstep HB1.out B15
      exact (b5.trans (kk1.below b5.size (fun k hk e => by omega))).trans (kk2.below (Nat.le_trans b5.size kk1.size) (fun k hk e => by omega))
  clear Hfacts Ho3 HK4 ho5 ho6 huk htn hu4 hui hum hts hb5 k5 m1 m2 m3 kk1 hlt1 B15 q2 kk2 kk1'
  go_wp2_with (first
    | (refine store_midL 42 (.tmp 17) (.tmp 14) (L := [.int .i64 (ui[0]?.getD 0), .int .i64 (ui[1]?.getD 0), .int .i64 (ui[2]?.getD 0), .int .i64 (ui[3]?.getD 0), .slice ua uk uc]) T1.out info_view (by simp [Value.oneCell']) rfl rfl rfl rfl ?_; rw [hM1])
    | (refine load_mid 50 (.tmp 3) R3.out _ Try.underlying50 rfl (by kernel_rfl) rfl rfl rfl ?_)
    | (refine store_midL 50 (.tmp 2) (.tmp 20) (L := [.slice (some ⟨g1, 0, none⟩) A.n A.n, .int .i64 A.own.cid, .int .i64 A.own.rev, .int .i64 A.own.top, .int .i64 (A.own.prev[0]?.getD 0), .int .i64 (A.own.prev[1]?.getD 0), .int .i64 (A.own.prev[2]?.getD 0), .int .i64 (A.own.prev[3]?.getD 0), .slice (some ⟨g2, 0, none⟩) A.n A.n, .int .i64 (A.id[0]?.getD 0), .int .i64 (A.id[1]?.getD 0), .int .i64 (A.id[2]?.getD 0), .int .i64 (A.id[3]?.getD 0), .slice va A.k vc, .int .i64 (ui[0]?.getD 0), .int .i64 (ui[1]?.getD 0), .int .i64 (ui[2]?.getD 0), .int .i64 (ui[3]?.getD 0), .slice ua uk uc, .slice ta tn tc, .bool A.agr, .bool A.chg]) T2.out info_sight (by simp [Value.oneCell']) rfl rfl rfl rfl ?_; rw [hM4])
    | fail)
  (try simp only [Exit.inBlock, Exit.then])
  refine bodyPost_ret (v := .agg [.slice (some ⟨g1, 0, none⟩) A.n A.n, .int .i64 A.own.cid, .int .i64 A.own.rev, .int .i64 A.own.top, .int .i64 (A.own.prev[0]?.getD 0), .int .i64 (A.own.prev[1]?.getD 0), .int .i64 (A.own.prev[2]?.getD 0), .int .i64 (A.own.prev[3]?.getD 0), .slice (some ⟨g2, 0, none⟩) A.n A.n, .int .i64 (A.id[0]?.getD 0), .int .i64 (A.id[1]?.getD 0), .int .i64 (A.id[2]?.getD 0), .int .i64 (A.id[3]?.getD 0), .slice va A.k vc, .int .i64 (ui[0]?.getD 0), .int .i64 (ui[1]?.getD 0), .int .i64 (ui[2]?.getD 0), .int .i64 (ui[3]?.getD 0), .slice ua uk uc, .slice ta tn tc, .bool A.agr, .bool A.chg].toArray) ?_ ?_ ?_
  · exact results_cell_row rfl _ _ w.heap.size 50 _ (0, 0) _ rfl m4 Try.underlying50 rfl (by kernel_rfl)
  · rfl
  · exact HFin.out
end
end Go.Proofs.Ytdegjhkjmgimpaa.Mb
