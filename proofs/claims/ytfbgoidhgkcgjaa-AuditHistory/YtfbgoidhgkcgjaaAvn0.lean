import Derived.Test.YtfbgoidhgkcgjaaAvm
import Derived.Test.YtfbgoidhgkcgjaaAvm2
namespace Go.Proofs.Ytfbgoidhgkcgjaa.Lo
open Go.RowKit Go.Maps
set_option linter.unusedVariables false
set_option linter.unusedSimpArgs false
section
variable {w w' W : World} {B : Nat} {P : Nat → Prop}
def kyM (m : Mk) : Int × Int × Cm := (m.k, m.n, m.cm)
theorem fnd_key (l : List Mk) (x : Int) : (fnd l x).map (·.cm) = ((l.map kyM).find? (fun t => t.1 == 12 && t.2.1 == x)).map (·.2.2) := by
  rw [List.find?_map, Option.map_map]
  rfl
theorem key_fnd {l l' : List Mk} (h : l'.map kyM = l.map kyM) (x : Int) : (fnd l' x).map (·.cm) = (fnd l x).map (·.cm) := by rw [fnd_key, fnd_key, h]
theorem key_some {l l' : List Mk} (h : l'.map kyM = l.map kyM) (x : Int) : (fnd l' x).isSome = (fnd l x).isSome := by
  have := congrArg Option.isSome (key_fnd h x)
  simpa using this
theorem key_cm {l l' : List Mk} (h : l'.map kyM = l.map kyM) (x : Int) : ((fnd l' x).getD mk0).cm = ((fnd l x).getD mk0).cm := by
  have h1 := key_fnd h x
  cases h2 : fnd l' x <;> cases h3 : fnd l x <;> rw [h2, h3] at h1 <;> simp at h1 <;> simp [h1]
theorem key_hsl {l l' : List Mk} (h : l'.map kyM = l.map kyM) (k : Nat) : hsl l' k = hsl l k := by
  unfold hsl
  apply List.map_congr_left
  intro i _
  exact key_cm h _
def HK (l : List Mk) (K : Nat) : Prop := pres l K ∧ fnd l ((K : Int) + 1) = none
theorem key_HK {l l' : List Mk} (h : l'.map kyM = l.map kyM) {K : Nat} (hk : HK l' K) : HK l K := by
  refine ⟨fun i hi => by rw [← key_some h]; exact hk.1 i hi, ?_⟩
  have := key_some h ((K : Int) + 1)
  rw [hk.2] at this
  cases h3 : fnd l ((K : Int) + 1) with
  | none => rfl
  | some x => rw [h3] at this; cases this
theorem hist_K (la : Option Addr) (n lc : Nat) (l l0 : List Mk) (K : Nat) (w : World) (hr : MkR w la n l) (hok : ∀ e ∈ l, Okm e) (hn : n * 288 ≤ 140737488351232) (hky : l.map kyM = l0.map kyM) (hK : HK l0 K) : Calls Try.prog 5 #[.slice la n lc] w fun r w' => ∃ (ca : Option Addr) (cc : Nat), r = .returned (.slice ca K cc) ∧ OwC w' w.heap.size (.slice ca K cc) (hsl l0 K) ∧ Below w.heap.size w w' := by
  refine (hist_any la n lc l w hr hok hn).mono ?_
  rintro r w' ⟨k, ca, cc, rfl, h1, h2, h3, h4⟩
  have hk := key_HK hky ⟨h1, h2⟩
  obtain rfl : k = K := hs_uniq hk.1 hk.2 hK.1 hK.2
  rw [key_hsl hky] at h3
  exact ⟨ca, cc, rfl, h3, h4⟩
theorem rhist_K (la : Option Addr) (n lc : Nat) (l : List Mk) (K : Nat) (w : World) (hr : MkR w la n l) (hn : n * 288 ≤ 140737488351232) (hK : HK l K) : Calls Try.prog 7 #[.slice la n lc] w fun r w' => ∃ (ca : Option Addr) (cc : Nat), r = .returned (.slice ca K cc) ∧ OwC w' w.heap.size (.slice ca K cc) (hsl l K) ∧ Below w.heap.size w w' := by
  refine (rhist_any la n lc l w hr hn).mono ?_
  rintro r w' ⟨k, ca, cc, rfl, h1, h2, h3, h4⟩
  obtain rfl : k = K := hs_uniq h1 h2 hK.1 hK.2
  exact ⟨ca, cc, rfl, h3, h4⟩
theorem hist_E (la : Option Addr) (n lc : Nat) (l l0 : List Mk) (w : World) (hr : MkR w la n l) (hok : ∀ e ∈ l, Okm e) (hn : n * 288 ≤ 140737488351232) (hky : l.map kyM = l0.map kyM) : Calls Try.prog 5 #[.slice la n lc] w fun r w' => ∃ (K : Nat) (ca : Option Addr) (cc : Nat), HK l0 K ∧ K ≤ l0.length ∧ r = .returned (.slice ca K cc) ∧ OwC w' w.heap.size (.slice ca K cc) (hsl l0 K) ∧ Below w.heap.size w w' := by
  refine (hist_any la n lc l w hr hok hn).mono ?_
  rintro r w' ⟨k, ca, cc, rfl, h1, h2, h3, h4⟩
  have hk := key_HK hky ⟨h1, h2⟩
  rw [key_hsl hky] at h3
  exact ⟨k, ca, cc, hk, pres_le hk.1, rfl, h3, h4⟩
theorem MkF.take {la : Option Addr} {n m : Nat} {l : List Mk} (h : MkF w la n l) (hm : m ≤ n) : MkF w la m (l.take m) := by
  have hg : ∀ i, i < m → (l.take m).getD i mk0 = l.getD i mk0 := fun i hi => by
    rw [List.getD_eq_getElem?_getD, List.getElem?_take, if_pos hi, List.getD_eq_getElem?_getD]
  have hl := h.r.len
  refine ⟨⟨by rw [List.length_take]; omega, ?_⟩, fun i hi => by rw [hg i hi]; exact h.m i (by omega), fun i hi => by rw [hg i hi]; exact h.t i (by omega), fun i hi => by rw [hg i hi]; exact h.b i (by omega), Nat.le_trans (Nat.mul_le_mul_right 288 hm) h.z⟩
  rcases h.r.row with h0 | ⟨b, off, e, hc⟩
  · exact .inl (Nat.le_zero.1 (h0 ▸ hm))
  · exact .inr ⟨b, off, e, fun i hi => by rw [hg i hi]; exact hc i (by omega)⟩
theorem Lz.key {W wr : World} {B xb n : Nat} {l : List Mk} {La : Option Addr} {Lc : Nat} {Ma : Option Addr} {Mc : Nat} {Ta : Option Addr} {Tc : Nat} {Ba : Option Addr} {Bc : Nat} {l' : List Mk} {gm gt gb : Nat → Nat × Nat} (h : Lz W wr B xb l n n n n La Lc Ma Mc Ta Tc Ba Bc l' gm gt gb) (hl : l.length = n) : l'.map kyM = l.map kyM := by
  have hl' := h.o.rd.len
  apply List.ext_getElem
  · simp [hl, hl']
  · intro i h1 h2
    simp only [List.getElem_map]
    have h3 : i < n := by simpa [hl'] using h1
    have := h.s i h3
    rw [List.getD_eq_getElem?_getD, List.getElem?_eq_getElem (by omega), List.getD_eq_getElem?_getD, List.getElem?_eq_getElem (by omega)] at this
    simp only [Option.getD_some] at this
    rw [this]
    rfl
theorem Lz.okm {W wr : World} {B xb n : Nat} {l : List Mk} {La : Option Addr} {Lc : Nat} {Ma : Option Addr} {Mc : Nat} {Ta : Option Addr} {Tc : Nat} {Ba : Option Addr} {Bc : Nat} {l' : List Mk} {gm gt gb : Nat → Nat × Nat} (h : Lz W wr B xb l n n n n La Lc Ma Mc Ta Tc Ba Bc l' gm gt gb) (hl : l.length = n) (hok : ∀ e ∈ l, Okm e) : ∀ e ∈ l', Okm e := by
  intro e he
  have hl' := h.o.rd.len
  obtain ⟨i, hi, rfl⟩ := List.getElem_of_mem he
  have := h.s i (by omega)
  rw [List.getD_eq_getElem?_getD, List.getElem?_eq_getElem hi] at this
  simp only [Option.getD_some] at this
  rw [this]
  have ho := hok _ (getD_memM (l := l) (i := i) (by omega))
  exact ⟨ho.n, ho.k, ho.v, ho.o⟩
theorem flc_put (c : Cm) : ∀ (l : List Cm) (i : Nat), i < l.length → flc (l.set i c) = (flc l).take (i * 7) ++ c.cs ++ (flc l).drop (i * 7 + 7) := by
  intro l
  induction l with
  | nil => intro i hi; simp at hi
  | cons x l ih =>
    intro i hi
    have e1 : ∀ (x : Cm) (y : List Cm), flc (x :: y) = x.cs ++ flc y := fun x y => by simp [flc]
    cases i with
    | zero =>
      rw [List.set_cons_zero, e1, e1]
      simp [List.drop_append, Cm.len]
    | succ i =>
      have t1 : List.take ((i + 1) * 7) x.cs = x.cs := List.take_of_length_le (by rw [Cm.len]; omega)
      have t2 : List.drop ((i + 1) * 7 + 7) x.cs = [] := List.drop_eq_nil_of_le (by rw [Cm.len]; omega)
      rw [List.set_cons_succ, e1, e1, ih i (by simpa using hi), List.take_append, List.drop_append, Cm.len, t1, t2, show (i + 1) * 7 - 7 = i * 7 by omega, show (i + 1) * 7 + 7 - 7 = i * 7 + 7 by omega]
      simp only [List.append_assoc, List.nil_append]
theorem OwC.there {eb n c : Nat} {l : List Cm} (h : OwC w B (.slice (some ⟨eb, 0, none⟩) n c) l) {i : Nat} (hi : i < n) : w.there eb (i * 7) 7 := by
  have hl := h.rd.len
  obtain ⟨h1, h2⟩ := h
  rcases h2 with ⟨e, e0⟩ | ⟨g', cap, cur, e, hb, hh, hc, hm, hs, ht⟩
  · cases e
  · simp only [Value.slice.injEq, Option.some.injEq, Addr.mk.injEq, and_true] at e
    obtain ⟨rfl, e2, rfl⟩ := e
    intro j hj
    refine ⟨?_, frozen_of_row w eb _ _ _ hh⟩
    rw [blk_cell hh]
    have hlt : i * 7 + j < cur.size := by rw [hs]; have : i + 1 ≤ c := by omega
                                          have := Nat.mul_le_mul_right 7 this; omega
    simp [hlt]
theorem OwC.put {eb n c : Nat} {l : List Cm} (h : OwC w B (.slice (some ⟨eb, 0, none⟩) n c) l) {i : Nat} (hi : i < n) (e : Cm) : OwC (w.setCells eb (i * 7) e.cs) B (.slice (some ⟨eb, 0, none⟩) n c) (l.set i e) := by
  have hl := h.rd.len
  obtain ⟨h1, h2⟩ := h
  rcases h2 with ⟨e, e0⟩ | ⟨g', cap, cur, e9, hb, hh, hc, hm, hs, ht⟩
  · cases e
  · simp only [Value.slice.injEq, Option.some.injEq, Addr.mk.injEq, and_true] at e9
    obtain ⟨rfl, e2, rfl⟩ := e9
    have hin : i * 7 + 7 ≤ l.length * 7 := by have := Nat.mul_le_mul_right 7 (show i + 1 ≤ l.length by omega); omega
    have hcap : l.length * 7 ≤ c * 7 := Nat.mul_le_mul_right 7 hc
    have hsl := Ln.sets_list (k := eb) (t := 38) e.cs (i * 7) w cur.toList (by simpa using hh) (by rw [Cm.len]; simp; omega)
    rw [Cm.len] at hsl
    refine ⟨by rw [flc_len], .inr ⟨eb, c, _, by simp [hl], hb, hsl, by simpa using hc, hm, by rw [List.size_toArray, List.length_append, List.length_append, List.length_take, List.length_drop, Cm.len]; simp [hs]; omega, ?_⟩⟩
    have hA : cur.toList.length = c * 7 := by simp [hs]
    generalize cur.toList = A at *
    have hE : (A.take (i * 7) ++ e.cs).length = i * 7 + 7 := by rw [List.length_append, List.length_take, Cm.len, hA]; omega
    rw [flc_put e l i (by omega), ← ht]
    simp only [List.length_set]
    rw [List.take_append, hE, List.take_of_length_le (by rw [hE]; exact hin), List.take_take, List.drop_take, show min (i * 7) (l.length * 7) = i * 7 by omega]
theorem bCmd (p : Int) : Try.prog.built 38 [(3, .int .i64 p)] = some (⟨0, 0, 0, p, ⟨#[]⟩, ⟨#[]⟩, ⟨#[]⟩⟩ : Cm).cs.toArray := by kernel_rfl
end
end Go.Proofs.Ytfbgoidhgkcgjaa.Lo
