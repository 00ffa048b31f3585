import Derived.Test.YtpkcgjnaegaecaaYs3
import Derived.Test.YtpkcgjnaegaecaaZ4
namespace Go.Proofs.Ytpkcgjnaegaecaa.Fm
open Go.RowKit Go.Maps Mb
set_option linter.unusedVariables false
set_option maxRecDepth 100000
set_option linter.unusedSimpArgs false
section
variable {w w' W : World} {B : Nat}
theorem top_le {cs : List Co} {n : Nat} {ss : List (Int × Int)} (ht : togE cs = 0) (h : SlOf cs n ss) : baseOf cs + (n : Int) ≤ 4611686018427387904 := by
  have hT := tog_of ht
  have hbM : baseOf cs ≤ 4611686018427387904 := baseK_le _ hT.snd _ (Nat.le_refl _)
  by_cases h0 : n = 0
  · subst h0
    simpa using hbM
  · have h1 := tog_pair hT ((atP_iff hT.con _ _).1 (h.2 (n - 1) (by omega)))
    have := h1.2.2.1
    simp only at this
    omega
theorem rs_of {cs : List Co} {ds : List Dx} {n i : Nat} {ss : List (Int × Int)} {d E : Int} {l : List Dx} (ht : togE cs = 0) (h1 : 1 ≤ cs.length) (h16 : cs.length ≤ 16) (he : Ends cs n) (h : SlOf cs n ss) (hi : i ≤ n) (hd : d = baseOf cs + (i : Int)) (k : RsS cs ds d E l) : (E = 81 ∧ RsMiss ds (ss.drop i)) ∨ (E = 0 ∧ RsOk ds d (ss.drop i) l) := by
  have hb0 : 0 ≤ baseOf cs := baseK_nn _ _
  have htop := top_le ht h
  have hB : lkB cs d = true := by
    simp only [lkB, inR, Bool.and_eq_true, decide_eq_true_eq]
    omega
  rcases k with ⟨a, _⟩ | ⟨_, a, _⟩ | ⟨_, _, a, _⟩ | ⟨_, _, _, n', ss', k1, k2, k3⟩
  · rw [hB] at a; cases a
  · exact absurd ht a
  · omega
  · obtain rfl := he.eq k1
    obtain rfl := h.eq k2
    have e : (d - baseOf cs).toNat = i := by omega
    rw [e] at k3
    rcases k3 with ⟨m, e1, _⟩ | ⟨m, e1⟩
    · exact .inl ⟨e1, m⟩
    · exact .inr ⟨e1, m⟩
theorem miss_at {ds : List Dx} {ss : List (Int × Int)} {n i : Nat} (hl : ss.length = n) (h : RsMiss ds (ss.drop i)) : ∃ j, i ≤ j ∧ j < n ∧ fndB ds (ss.getD j z2) = none := by
  obtain ⟨j, hj, e⟩ := h
  rw [List.length_drop, hl] at hj
  refine ⟨i + j, by omega, by omega, ?_⟩
  have : (ss.drop i).getD j z2 = ss.getD (i + j) z2 := by simp [List.getD]
  rw [← this]
  exact e
theorem RsOk.dropk {ds : List Dx} {d : Int} {ss : List (Int × Int)} {l : List Dx} (h : RsOk ds d ss l) (k : Nat) : RsOk ds (d + (k : Int)) (ss.drop k) (l.drop k) := by
  refine ⟨by rw [List.length_drop, List.length_drop, h.len], fun j hj => ?_⟩
  rw [List.length_drop] at hj
  have e1 : (l.drop k).getD j dx0 = l.getD (k + j) dx0 := by simp [List.getD]
  have e2 : (ss.drop k).getD j z2 = ss.getD (k + j) z2 := by simp [List.getD]
  rw [e1, e2]
  obtain ⟨a1, a2, a3⟩ := h.el (k + j) (by omega)
  refine ⟨?_, a2, a3⟩
  rw [a1]
  refine Prod.ext ?_ rfl
  simp only
  omega
theorem nomiss_far {ds : List Dx} {d : Int} {ss : List (Int × Int)} {l : List Dx} {i k : Nat} (h : RsOk ds d (ss.drop i) l) (m : RsMiss ds (ss.drop (i + k))) : False := by
  have := h.dropk k
  rw [List.drop_drop] at this
  exact this.nomiss m
theorem rdDs_drop {g n c k : Nat} {ds : List Dx} (h : RdDs w (some ⟨g, 0, none⟩) ds) (hn : ds.length = n) (hnc : n ≤ c) (hk : k ≤ n) : RdDs w (some ⟨g, if c = k then 0 else k * 4, none⟩) (ds.drop k) := by
  refine ⟨?_, fun i hi => ?_⟩
  · unfold Row
    rw [List.length_drop]
    by_cases h0 : ds.length - k = 0
    · exact .inl h0
    · rw [if_neg (by omega)]
      rcases h.row with h | ⟨b, off, h1, h2⟩
      · omega
      · simp at h1
        obtain ⟨rfl, rfl⟩ := h1
        refine .inr ⟨g, k * 4, rfl, fun i hi => ?_⟩
        have := h2 (k * 4 + i) (by omega)
        rw [Nat.zero_add] at this
        rw [this]
        unfold dxC
        rw [show (k * 4 + i) / 4 = k + i / 4 by omega, show (k * 4 + i) % 4 = i % 4 by omega]
        simp [List.getD, List.getElem?_drop]
  · rw [List.length_drop] at hi
    have e : (ds.drop k).getD i dx0 = ds.getD (k + i) dx0 := by simp [List.getD]
    rw [e]
    exact h.el (k + i) (by omega)
theorem info_mix : (Try.prog.info? 46).map (·.size) = some 6 := by kernel_rfl
theorem Al.in64 {a b : List Dx} (h : Al a b) (hb : ∀ i, i < b.length → i64B (b.getD i dx0).s.1 ∧ i64B (b.getD i dx0).s.2) : ∀ i, i < a.length → i64B (a.getD i dx0).s.1 ∧ i64B (a.getD i dx0).s.2 := fun i hi => by
  have := h.el i (by rw [← h.len]; exact hi)
  rw [this.1]
  exact hb i (by rw [← h.len]; exact hi)
theorem cut_same {cs ds : List Co} {n : Nat} {v E : Int} (hm : ∀ f, f ∈ ds ↔ f ∈ cs) (ht : togE cs = 0) (h1 : 1 ≤ ds.length) (h16 : ds.length ≤ 16) (he : Ends cs n) (k : CutS ds v E) : E = 0 ∧ v = baseOf cs + (n : Int) := by
  have hm2 : ∀ f, f ∈ cs ↔ f ∈ ds := fun f => (hm f).symm
  have hin : inR 1 16 (ds.length : Int) = true := inR_t (by omega) (by omega)
  rcases k with ⟨a, _⟩ | ⟨_, a, _⟩ | ⟨_, _, e, n', h2, h3⟩
  · rw [hin] at a; cases a
  · exact absurd (tog_same hm2 ht) a
  · obtain rfl := (ends_same hm2 ht he).eq h2
    exact ⟨e, by rw [h3, base_same hm2]⟩
structure Rst (ds : List Dx) (w0 w : World) (a : Option Addr) (c : Nat) (out : List Dx) : Prop where
  m : MoT 91 w0.heap.size w (.slice a out.length c) out
  r : ∀ i, i < out.length → i64B (out.getD i dx0).s.1 ∧ i64B (out.getD i dx0).s.2
  b : Below w0.heap.size w0 w
set_option maxHeartbeats 2000000 in
theorem rest_two {ao ma : Option Addr} {cp mc i n : Nat} {ys fs : List Fl} {dm ds : List Dx} {ss : List (Int × Int)} {d : Int} (hr : RdFs w ao ys) (hm : ∀ f, f ∈ cos ys ↔ f ∈ cos fs) (h1 : 1 ≤ ys.length) (h16 : ys.length ≤ 16) (hd : RdDs w ma dm) (hdn : dm.length ≤ 1048576) (hdz : ∀ i, i < dm.length → ((dm.getD i dx0).ba = none → (dm.getD i dx0).bs.length = 0 ∧ (dm.getD i dx0).bc = 0) ∧ (dm.getD i dx0).bs.length ≤ 1048576) (hal : Al dm ds) (ht : togE (cos fs) = 0) (he : Ends (cos fs) n) (h : SlOf (cos fs) n ss) (hi : i ≤ n) (hd2 : d = baseOf (cos fs) + (i : Int)) : Calls Try.prog 20 #[.int .i64 d, .slice ao ys.length cp, .slice ma dm.length mc] w fun e w' => ∃ a c out E, e = .returned (.tuple #[.slice a (out : List Dx).length c, .int .i64 E]) ∧ ((E = 81 ∧ RsMiss ds (ss.drop i)) ∨ (E = 0 ∧ RsOk ds d (ss.drop i) out)) ∧ Rst ds w w' a c out := by
  refine (rest_any (cp := cp) (mc := mc) hr (by omega) hd hdn hdz d).mono ?_
  rintro e w' ⟨a, c, out, E, rfl, hS, hmo, hb⟩
  have hm2 : ∀ f, f ∈ cos fs ↔ f ∈ cos ys := fun f => (hm f).symm
  refine ⟨a, c, out, E, rfl, ?_, hmo, hS.r64, hb⟩
  exact rs_of (tog_same hm2 ht) (by rw [cos_len]; exact h1) (by rw [cos_len]; exact h16) (ends_same hm2 ht he) (sl_same hm2 ht h) hi (by rw [← base_same hm2]; exact hd2) (hS.al hal)
end
end Go.Proofs.Ytpkcgjnaegaecaa.Fm
