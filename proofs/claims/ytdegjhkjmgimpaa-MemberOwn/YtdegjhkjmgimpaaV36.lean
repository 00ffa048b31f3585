import Derived.Test.YtdegjhkjmgimpaaV35
namespace Go.Proofs.Ytdegjhkjmgimpaa.Mb
open Go.RowKit Oe
set_option linter.unusedVariables false
set_option maxRecDepth 100000
set_option linter.unusedSimpArgs false
section
variable {A A' : Ag} {w w' W : World} {B : Nat} {T : Int}
structure Fs (w : World) (b n s : Nat) (inc : Int) (kc : Nat) (cc : Array Value) (A : Ag) : Prop where
  ok : A.Ok w b 4611686018427387903
  iv : A.Iv inc
  ix : A.Ix
  b : A.b = b
  n : A.n = n
  self : A.self = s
  m1 : w.heap[kc]? = some (.cells cc 24 (0, 0))
section
variable {b n s kc : Nat} {inc : Int} {cc : Array Value}
theorem Fs.still (h : Fs w b n s inc kc cc A) (hb : Below w.heap.size w w') : Fs w' b n s inc kc cc A := { h with ok := h.ok.still hb, m1 := (hb.block _ (lt_heap h.m1)).trans h.m1 }
theorem Fs.blk (h : Fs w b n s inc kc cc A) : ∃ C, w.heap[b]? = some (.cells C 66 (0, 0)) := by
  obtain ⟨C, h1, _⟩ := h.ok.blk
  rw [h.b] at h1
  exact ⟨C, h1⟩
theorem Fs.step (h : Fs w b n s inc kc cc A) {o : Opx} {E : Int} (hO : A'.Ok w' b 4611686018427387903) (hK : Kept w w' (fun j => j = b)) (hs : Stp A o E A') : Fs w' b n s inc kc cc A' := by
  have hf := stp_fx hs
  obtain ⟨C, hC⟩ := h.blk
  exact ⟨hO, h.iv.stp h.ok.il (topL_nn (inc := inc) h.ok) hs, h.ix.stp hs, hf.b.trans h.b, hf.n.trans h.n, hf.self.trans h.self, hK.obj h.m1 (fun e => blk_ne h.m1 hC (by decide) e)⟩
theorem Fs.same (h : Fs w b n s inc kc cc A) (hO : A.Ok w' b 4611686018427387903) (hK : Kept w w' (fun j => j = b)) : Fs w' b n s inc kc cc A := by
  obtain ⟨C, hC⟩ := h.blk
  exact { h with ok := hO, m1 := hK.obj h.m1 (fun e => blk_ne h.m1 hC (by decide) e) }
theorem Fs.put (h : Fs w b n s inc kc cc A) {k t o : Nat} {C : Array Value} (L : List Value) (hk : w.heap[k]? = some (.cells C t (0, 0))) (h1 : t ≠ 66) (h2 : t ≠ 79) (h3 : t ≠ 24) : Fs (w.setCells k o L) b n s inc kc cc A := by
  have kk := ksets (P := fun j => j = k) (b := k) rfl L o w
  obtain ⟨Cb, hCb⟩ := h.blk
  refine { h with ok := h.ok.keep kk (fun e => ?_) (own_ne h.ok.mem hk (fun e => h2 e.symm)), m1 := kk.obj h.m1 (fun e => blk_ne h.m1 hk (fun e => h3 e.symm) e) }
  have e' : b = k := by rw [← h.b]; exact e
  exact blk_ne hCb hk (fun e => h1 e.symm) e'
theorem Fs.look (h : Fs w b n s inc kc cc A) : Calls Try.prog 9 #[.pointer (some ⟨b, 0, none⟩)] w fun e w' => ∃ S : Si, e = .returned (.agg S.cs.toArray) ∧ S.Kp w' ∧ S.sg = A.sg ∧ Below w.heap.size w w' := by
  have hh := look_any h.ok h.iv
  rw [h.b] at hh
  exact hh
theorem Fs.set (h : Fs w b n s inc kc cc A) : A.own.set.getD A.self 0 ≠ 0 := by rw [h.iv.set]; have := h.iv.inc1; omega
theorem Fs.inst (h : Fs w b n s inc kc cc A) (hg : A.agr = true) : Calls Try.prog 7 #[.pointer (some ⟨b, 0, none⟩)] w fun e w' => ∃ gw cw ao tn cp A' j0 j1 j2 j3, e = .returned (.tuple #[.agg #[.int .i64 j0, .int .i64 j1, .int .i64 j2, .int .i64 j3, .slice (some ⟨gw, 0, none⟩) A'.k cw], .slice ao tn cp, .int .i64 0]) ∧ Fs w' b n s inc kc cc A' ∧ A'.id = [j0, j1, j2, j3] ∧ A'.id = A.avI ∧ A'.ms = A.msL A.mids ∧ w'.ownsRow 0 79 3 (.slice (some ⟨gw, 0, none⟩) A'.k cw) A'.k (ints A'.ms) ∧ w'.ownsRow 0 3 1 (.slice ao tn cp) tn (ints (A.wl A.tog)) ∧ tn ≤ 16 ∧ A'.own = A.own ∧ A'.chg = false ∧ A'.k ≤ 16 ∧ Kept w w' (fun j => j = b) := by
  have hv := h.iv
  have hy := install_yes h.ok h.set hg
  rw [h.b] at hy
  refine hy.mono ?_
  rintro e w3 ⟨g, c, g', c', v, rfl, hA3, ho1, ho2, hgs, hgg, hvb, hK⟩
  obtain ⟨ao, cp, rfl⟩ := own_slice ho2
  have htn : (A.wl A.tog).length ≤ 16 := by
    unfold Ag.wl Ag.wlN
    rw [List.length_map]
    exact Nat.le_trans (List.length_filter_le _ _) (by rw [List.length_range]; exact hv.n16.2.1)
  have hnn := topL_nn (inc := inc) h.ok
  obtain ⟨C, hC⟩ := h.blk
  exact ⟨g', c', ao, _, cp, A.inst g c, _, _, _, _, rfl, ⟨hA3, hv.ins g c hnn, h.ix, h.b, h.n, h.self, hK.obj h.m1 (fun e => blk_ne h.m1 hC (by decide) e)⟩, rfl, rfl, rfl, own_base ho1, own_base ho2, htn, rfl, rfl, Nat.le_trans (mids_len A) hv.n16.2.1, hK⟩
theorem Fs.noinst (h : Fs w b n s inc kc cc A) (hg : A.agr = false) : Calls Try.prog 7 #[.pointer (some ⟨b, 0, none⟩)] w fun e w' => e = .returned (.tuple #[.agg #[.int .i64 0, .int .i64 0, .int .i64 0, .int .i64 0, .slice none 0 0], .slice none 0 0, .int .i64 61]) ∧ Below w.heap.size w w' := by
  have hy := install_no h.ok hg
  rw [h.b] at hy
  exact hy
theorem Fs.prop (h : Fs w b n s inc kc cc A) : Calls Try.prog 6 #[.pointer (some ⟨b, 0, none⟩)] w fun e w' => ∃ g3 g4, e = .returned (.agg (pC A n g3 g4).toArray) ∧ Rw w' g3 3 (A.own.set.take n) ∧ Rw w' g4 3 (A.own.vec.take n) ∧ Below w.heap.size w w' := by
  have hh := proposal_any h.ok
  rw [h.b] at hh
  unfold Ag.pq at hh
  rw [h.n] at hh
  refine hh.mono ?_
  rintro e w2 ⟨g3, g4, rfl, _, _, r3, r4, hb⟩
  exact ⟨g3, g4, rfl, r3, r4, hb⟩
theorem Fs.own (h : Fs w b n s inc kc cc A) {g : Nat} (hr : Rw w g 3 (A.own.set.take n)) : Calls Try.prog 10 #[.pointer (some ⟨b, 0, none⟩), .slice (some ⟨g, 0, none⟩) n n] w fun e w' => e = .returned (.tuple #[.bool false, .int .i64 0]) ∧ Fs w' b n s inc kc cc A ∧ Kept w w' (fun j => j = b) := by
  have hl : (A.own.set.take n).length = n := by rw [List.length_take, h.iv.ol.ls]; have := h.iv.n16; have := h.n; omega
  have hrd : RdI w (some ⟨g, 0, none⟩) n (A.own.set.take n) := ⟨hl, .inr ⟨g, 0, rfl, fun i hi => by rw [Nat.zero_add]; exact hr.cell (by omega)⟩⟩
  have hh := est_any (c := n) h.ok (by omega) hrd (by have := h.iv.n16; have := h.n; omega)
  have he := est_own h.iv h.ix
  rw [h.n] at he
  rw [he.1, he.2.1, he.2.2, h.b] at hh
  refine hh.mono ?_
  rintro e w2 ⟨rfl, hO, hK⟩
  exact ⟨rfl, h.same hO hK, hK⟩
theorem Fs.call (h : Fs w b n s inc kc cc A) (o : Opx) (hr : o.Rd w) : Calls Try.prog 8 #[.pointer (some ⟨b, 0, none⟩), .agg o.cs] w fun e w' => ∃ E A', e = .returned (.int .i64 E) ∧ Fs w' b n s inc kc cc A' ∧ Kept w w' (fun j => j = b) ∧ Stp A o E A' := by
  have hh := call_any h.ok h.set o hr
  rw [h.b] at hh
  refine hh.mono ?_
  rintro e w2 ⟨E, A', rfl, hO, hK, hs⟩
  exact ⟨E, A', rfl, h.step hO hK hs, hK, hs⟩
theorem Fs.chg (h : Fs w b n s inc kc cc A) : Calls Try.prog 5 #[.pointer (some ⟨b, 0, none⟩)] w fun e w' => e = .returned (.bool A.chg) ∧ w = w' := by
  have hh := changing_any h.ok
  rw [h.b] at hh
  exact hh
theorem Fs.first (b n s : Nat) (inc fl : Int) (h16 : 1 ≤ n ∧ n ≤ 16 ∧ s < n) (hi : 1 ≤ inc ∧ inc ≤ 4611686018427387904) (hA : (A1 b n s inc fl).Ok w b 4611686018427387903) (hm : w.heap[kc]? = some (.cells cc 24 (0, 0))) : Fs w b n s inc kc cc (A1 b n s inc fl) :=
  ⟨hA, A1_iv b n s inc fl h16 hi.1, A1_ix b n s inc fl h16 hi, rfl, rfl, rfl, hm⟩
end
end
end Go.Proofs.Ytdegjhkjmgimpaa.Mb
