import Derived.Test.YtfodkackfahldaaBra
import Derived.Great.Walk
namespace Go.Proofs.Ytfodkackfahldaa.Lo
open Go.RowKit
set_option linter.unusedVariables false
set_option linter.unusedSimpArgs false
section
variable {w w' W : World} {B : Nat} {P : Nat → Prop}
structure EvF (w : World) (ea : Option Addr) (en : Nat) (es : List Em) : Prop where
  r : EvR w ea en es
  bd : ∀ i, i < en → Ln.Rd w (es.getD i em0).ba (es.getD i em0).bn (es.getD i em0).bc (es.getD i em0).bs ∧ ((es.getD i em0).ba = none → (es.getD i em0).bn = 0 ∧ (es.getD i em0).bc = 0) ∧ (es.getD i em0).bn ≤ 140737488351232
  sl : ∀ i, i < en → (es.getD i em0).sn * 8 ≤ 140737488351232
  sz : en * 160 ≤ 140737488351232
theorem EvF.on {ea : Option Addr} {en : Nat} {es : List Em} (h : EvF w ea en es) (hb : Below w.heap.size w w') : EvF w' ea en es :=
  ⟨h.r.on hb, fun i hi => ⟨(h.bd i hi).1.still hb, (h.bd i hi).2⟩, h.sl, h.sz⟩
theorem ow_shape {t s n : Nat} {v : Value} {l : List Value} (h : w.ownsRow B t s v n l) : ∃ a c, v = .slice a n c := by
  rcases h.2 with ⟨rfl, rfl⟩ | ⟨g, cap, cur, rfl, _⟩
  · exact ⟨none, 0, rfl⟩
  · exact ⟨_, _, rfl⟩
theorem ow_type {t s n g : Nat} {v : Value} {l : List Value} (h : w.ownsRow B t s v n l) (hg : v.ownBlock = some g) {C : Array Value} {t' : Nat} (hk : w.heap[g]? = some (.cells C t' (0, 0))) : t' = t := by
  obtain ⟨C', h'⟩ := Ln.own_ty h hg
  rw [h'] at hk
  simp at hk
  exact hk.2.symm
theorem OwI.ri {a : Option Addr} {n c : Nat} {xs : List Int} (h : OwI w B (.slice a n c) xs) : Ri w a n c xs := by
  obtain ⟨h1, h2⟩ := h
  rcases h2 with ⟨e, e0⟩ | ⟨g, cap, cur, e, _, hh, hc, _, hs, ht⟩
  · cases e
    exact ⟨e0, fun _ => ⟨rfl, rfl⟩, .inl rfl⟩
  · cases e
    refine ⟨rfl, fun h => (by cases h), ?_⟩
    by_cases e0 : xs.length = 0
    · exact .inl e0
    · refine .inr ⟨g, 0, rfl, fun i hi => ?_⟩
      rw [blk_cell hh, Nat.zero_add]
      have := Mb.ints_at xs i hi
      rw [← ht] at this
      rw [List.getElem?_take] at this
      rw [if_pos (by omega)] at this
      simpa using this
theorem OwI.len {a : Option Addr} {n c : Nat} {xs : List Int} (h : OwI w B (.slice a n c) xs) : xs.length = n := h.ri.1
theorem OwB.rd {a : Option Addr} {n c : Nat} {bs : List Int} (h : OwB w B (.slice a n c) bs) (hb : Ln.By bs) : Ln.Rd w a n c bs := Ln.Own.rd (by
  obtain ⟨h1, h2⟩ := h
  exact ⟨h1, h2⟩) hb
theorem OwB.none {a : Option Addr} {n c : Nat} {bs : List Int} (h : OwB w B (.slice a n c) bs) : a = none → n = 0 ∧ c = 0 := by
  intro e
  subst e
  rcases h.2 with ⟨e, e0⟩ | ⟨g, cap, cur, e, _⟩
  · cases e; exact ⟨rfl, rfl⟩
  · cases e
theorem OwE.row {a : Option Addr} {n c : Nat} {es : List Em} (h : OwE w B (.slice a n c) es) : es.length = n ∧ (n = 0 ∨ ∃ b off, a = some ⟨b, off, none⟩ ∧ ∀ i, i < n → w.rangeAt b (off + i * 13) (es.getD i em0).cs) := by
  obtain ⟨h1, h2⟩ := h
  rcases h2 with ⟨e, e0⟩ | ⟨g, cap, cur, e, _, hh, hc, _, hs, ht⟩
  · cases e
    exact ⟨e0, .inl rfl⟩
  · cases e
    refine ⟨rfl, ?_⟩
    refine .inr ⟨g, 0, rfl, fun i hi j v hv => ?_⟩
    rw [blk_cell hh, Nat.zero_add]
    have hj : j < 13 := by have := (List.getElem?_eq_some_iff.1 hv).1; rwa [cs_len] at this
    have hf : (fls es)[i * 13 + j]? = some v := by
      have : ∀ (es : List Em) (i : Nat), i < es.length → (es.getD i em0).cs[j]? = some v → (fls es)[i * 13 + j]? = some v := by
        intro es
        induction es with
        | nil => intro i hi; simp at hi
        | cons e es ih =>
          intro i hi hv
          have e1 : fls (e :: es) = e.cs ++ fls es := by simp [fls]
          cases i with
          | zero =>
            rw [e1, Nat.zero_mul, Nat.zero_add, List.getElem?_append_left (by rw [cs_len]; omega)]
            simpa using hv
          | succ i =>
            rw [e1, List.getElem?_append_right (by rw [cs_len]; omega), cs_len, show (i + 1) * 13 + j - 13 = i * 13 + j by omega]
            exact ih i (by simpa using hi) (by simpa using hv)
      exact this es i hi hv
    rw [← ht, List.getElem?_take, if_pos (by omega)] at hf
    simpa using hf
structure Rws (w : World) (B : Nat) (es : List Em) : Prop where
  sd : ∀ e ∈ es, OwI w B (.slice e.sa e.sn e.sc) e.xs
  bd : ∀ e ∈ es, OwB w B (.slice e.ba e.bn e.bc) e.bs ∧ Ln.By e.bs
theorem Rws.keep {es : List Em} (h : Rws w B es) (k : Mb.Kept w w' P) (hP : ∀ j, P j → ∀ C t, w.heap[j]? = some (.cells C t (0, 0)) → t ≠ 3 ∧ t ≠ 5) : Rws w' B es := by
  refine ⟨fun e he => k.owns (h.sd e he) (fun g hg hp => ?_), fun e he => ⟨k.owns (h.bd e he).1 (fun g hg hp => ?_), (h.bd e he).2⟩⟩
  · obtain ⟨C, hC⟩ := Ln.own_ty (h.sd e he) hg
    exact (hP g hp C _ hC).1 rfl
  · obtain ⟨C, hC⟩ := Ln.own_ty (h.bd e he).1 hg
    exact (hP g hp C _ hC).2 rfl
theorem Rws.add {es : List Em} {e : Em} (h : Rws w B es) (h1 : OwI w B (.slice e.sa e.sn e.sc) e.xs) (h2 : OwB w B (.slice e.ba e.bn e.bc) e.bs) (h3 : Ln.By e.bs) : Rws w B (es ++ [e]) := by
  refine ⟨fun x hx => ?_, fun x hx => ?_⟩
  · rcases List.mem_append.1 hx with hx | hx
    · exact h.sd x hx
    · obtain rfl := List.mem_singleton.1 hx; exact h1
  · rcases List.mem_append.1 hx with hx | hx
    · exact h.bd x hx
    · obtain rfl := List.mem_singleton.1 hx; exact ⟨h2, h3⟩
theorem Rws.nil (w : World) (B : Nat) : Rws w B [] := ⟨fun e he => (by cases he), fun e he => (by cases he)⟩
theorem Rws.lower {es : List Em} {B' : Nat} (h : Rws w B es) (hB : B' ≤ B) : Rws w B' es := ⟨fun e he => Mb.own_lower (h.sd e he) hB, fun e he => ⟨Mb.own_lower (h.bd e he).1 hB, (h.bd e he).2⟩⟩
theorem getD_mem {es : List Em} {i : Nat} (h : i < es.length) : es.getD i em0 ∈ es := by
  rw [List.getD_eq_getElem?_getD, List.getElem?_eq_getElem h]
  exact List.getElem_mem _
theorem evr_of {a : Option Addr} {n c : Nat} {es : List Em} (h : OwE w B (.slice a n c) es) (hr : Rws w B es) (hs : ∀ i, i < n → (es.getD i em0).sn ≤ 140737488355328) : EvR w a n es :=
  ⟨h.row.1, h.row.2, fun i hi => ⟨(hr.sd _ (getD_mem (by rw [h.row.1]; exact hi))).ri, hs i hi⟩⟩
structure Sm (e e' : Em) : Prop where
  k : e'.k = e.k
  a : e'.a = e.a
  b : e'.b = e.b
  n : e'.n = e.n
  bs : e'.bs = e.bs
  c5 : e'.c5 = e.c5
  c6 : e'.c6 = e.c6
  c7 : e'.c7 = e.c7
  c8 : e'.c8 = e.c8
  s9 : e'.s9 = e.s9
  s10 : e'.s10 = e.s10
  s11 : e'.s11 = e.s11
  xs : e'.xs = e.xs
def Sms (j : Nat) (es es' : List Em) : Prop := es'.length = j ∧ ∀ i, i < j → Sm (es.getD i em0) (es'.getD i em0)
theorem Sms.add {j : Nat} {es es' : List Em} {e' : Em} (h : Sms j es es') (hs : Sm (es.getD j em0) e') : Sms (j + 1) es (es' ++ [e']) := by
  refine ⟨by simp [h.1], fun i hi => ?_⟩
  by_cases e : i = j
  · subst e
    have : (es' ++ [e']).getD i em0 = e' := by rw [List.getD_eq_getElem?_getD, List.getElem?_append_right (by have := h.1; omega)]; simp [h.1]
    rw [this]
    exact hs
  · have : (es' ++ [e']).getD i em0 = es'.getD i em0 := by rw [List.getD_eq_getElem?_getD, List.getElem?_append_left (by have := h.1; omega), List.getD_eq_getElem?_getD]
    rw [this]
    exact h.2 i (by omega)
theorem stF_congr {N : Nat} {f : Nat → Int} {e e' : Em} (h : Sm e e') (t : Int) : stF N f e' t = stF N f e t := by
  unfold stF diF haE
  rw [h.k, h.a, h.b, h.n, h.xs]
theorem prK_congr {N : Nat} {f : Nat → Int} {es es' : List Em} : ∀ j, (∀ i, i < j → Sm (es.getD i em0) (es'.getD i em0)) → prK N f es' j = prK N f es j
  | 0, _ => rfl
  | j + 1, h => by
    show stF N (prK N f es' j) (es'.getD j em0) _ = stF N (prK N f es j) (es.getD j em0) _
    rw [prK_congr j (fun i hi => h i (by omega)), stF_congr (h j (by omega))]
theorem pm_congr {E : Int} {j : Nat} {no ba fl : Int} {es es' : List Em} {xs : List Int} (h : Sms j es es') : pm E j no ba fl es' xs = pm E j no ba fl es xs := by
  unfold pm pmF
  rw [prK_congr j h.2]
theorem builtSl (e : Em) : Try.prog.builtSlice 36 1 [(0, .agg e.cs.toArray)] = some e.cs.toArray := by kernel_rfl
theorem zScr : (Try.prog.info? 27).map (·.zero) = some (some (.agg #[.int .i64 0, .int .i64 0, .int .i64 0, .int .i64 0, .int .i64 0, .int .i64 0, .int .i64 0, .slice none 0 0, .slice none 0 0])) := by kernel_rfl
theorem zEvt : (Try.prog.info? 36).map (·.zero) = some (some (.agg zEv)) := by kernel_rfl
theorem iScr : (Try.prog.info? 27).map (·.size) = some 9 := by kernel_rfl
theorem iEvt : (Try.prog.info? 36).map (·.size) = some 13 := by kernel_rfl
end
end Go.Proofs.Ytfodkackfahldaa.Lo
