import Derived.Test.YtpkcgjnaegaecaaYs1
namespace Go.Proofs.Ytpkcgjnaegaecaa.Fm
open Go.RowKit Go.Maps Mb
set_option linter.unusedVariables false
set_option maxRecDepth 100000
set_option linter.unusedSimpArgs false
section
variable {w w' W : World} {B : Nat}
theorem own_putF {g n c i : Nat} {l : List Fl} (h : w.ownsRow B 35 7 (.slice (some ⟨g, 0, none⟩) n c) n (flCells l)) (hl : l.length = n) (hi : i < n) (s : Fl) : w.there g (i * 7) 7 ∧ B ≤ g ∧ (w.setCells g (i * 7) s.cs).ownsRow B 35 7 (.slice (some ⟨g, 0, none⟩) n c) n (flCells (l.set i s)) := by
  rcases h.2 with ⟨h1, h2⟩ | ⟨g', cap, cur, hv, hB, hg, hnc, hcm, hcs, htk⟩
  · cases h1
  · simp only [Value.slice.injEq, Option.some.injEq, Addr.mk.injEq] at hv
    obtain ⟨⟨rfl, -, -⟩, -, rfl⟩ := hv
    have hsz : i * 7 + 7 ≤ cur.size := by omega
    refine ⟨fun j hj => ⟨by rw [blk_cell hg]; simp; omega, frozen_of_row w _ _ _ _ hg⟩, hB, ⟨by rw [flCells_len, List.length_set, hl], .inr ⟨g, c, _, rfl, hB, sets_list s.cs (i * 7) w cur.toList (by simpa using hg) (by rw [Fl.cs_len]; simpa using hsz), hnc, hcm, ?_, ?_⟩⟩⟩
    · simp only [List.size_toArray, List.length_append, List.length_take, List.length_drop, Array.length_toList]
      have : s.cs.length = 7 := rfl
      omega
    · apply List.ext_getElem?
      intro j
      by_cases hj : j < n * 7
      · rw [List.getElem?_take_of_lt hj, flCells_at _ _ (by rw [List.length_set, hl]; exact hj)]
        simp only []
        have hold : cur.toList[j]? = some (flC l j) := by
          have e1 : (cur.toList.take (n * 7))[j]? = (flCells l)[j]? := by rw [htk]
          rw [List.getElem?_take_of_lt hj] at e1
          rw [e1, flCells_at _ _ (by omega)]
        have hlv : s.cs.length = 7 := rfl
        by_cases hji : j / 7 = i
        · have hC : flC (l.set i s) j = s.cs.getD (j % 7) undef := by
            unfold flC
            rw [hji]
            simp [List.getD, show i < l.length by omega]
          rw [hC, List.append_assoc, List.getElem?_append_right (by simp; omega), List.getElem?_append_left (by simp; omega)]
          have e2 : j - (cur.toList.take (i * 7)).length = j % 7 := by simp; omega
          rw [e2, List.getD, List.getElem?_eq_getElem (by rw [hlv]; omega)]
          rfl
        · have hC : flC (l.set i s) j = flC l j := by
            unfold flC
            simp [List.getD, List.getElem?_set, show ¬ i = j / 7 from fun h => hji h.symm]
          rw [hC, ← hold]
          by_cases hlt : j < i * 7
          · rw [List.append_assoc, List.getElem?_append_left (by simp; omega), List.getElem?_take_of_lt hlt]
          · rw [List.getElem?_append_right (by simp; omega), List.getElem?_drop]
            congr 1
            simp
            omega
      · rw [List.getElem?_take_eq_none (by omega), List.getElem?_eq_none (by rw [flCells_len, List.length_set]; omega)]
theorem own_rangeF {B g n c i : Nat} {ys : List Fl} (h : w.ownsRow B 35 7 (.slice (some ⟨g, 0, none⟩) n c) n (flCells ys)) (hl : ys.length = n) (hi : i < n) : w.rangeAt g (i * 7) (ys.getD i fl0).cs := fun j v hv => by
  have hj : j < 7 := by have := (List.getElem?_eq_some_iff.1 hv).1; rwa [Fl.cs_len] at this
  rcases own_row h (fun k hk => flCells_at ys k (by rw [hl]; exact hk)) with h1 | ⟨b, off, h1, h2⟩
  · omega
  · simp only [Option.some.injEq, Addr.mk.injEq, and_true] at h1
    obtain ⟨rfl, rfl⟩ := h1
    have e := h2 (i * 7 + j) (by omega)
    simp only [flC, show (i * 7 + j) / 7 = i by omega, show (i * 7 + j) % 7 = j by omega] at e
    rw [Nat.zero_add] at e
    rw [e, List.getD, hv]
    rfl
def swp (l : List Fl) (a b : Nat) : List Fl := (l.set a (l.getD b fl0)).set b (l.getD a fl0)
theorem swp_len (l : List Fl) (a b : Nat) : (swp l a b).length = l.length := by simp [swp]
def swi (a b i : Nat) : Nat := if i = b then a else if i = a then b else i
theorem swi_lt {a b i n : Nat} (ha : a < n) (hb : b < n) (hi : i < n) : swi a b i < n := by
  unfold swi
  split
  · exact ha
  · split
    · exact hb
    · exact hi
theorem swi_swi (a b i : Nat) : swi a b (swi a b i) = i := by
  unfold swi
  by_cases e1 : i = b
  · subst e1
    rw [if_pos rfl]
    by_cases e3 : a = i
    · simp [e3]
    · simp [e3]
  · rw [if_neg e1]
    by_cases e2 : i = a
    · subst e2
      simp [e1]
    · simp [e1, e2]
theorem getD_set (l : List Fl) (i j : Nat) (x : Fl) (hj : j < l.length) : (l.set i x).getD j fl0 = if i = j then x else l.getD j fl0 := by
  simp only [List.getD, List.getElem?_set]
  by_cases e : i = j
  · subst e
    simp [hj]
  · simp [e]
theorem swp_get {l : List Fl} {a b i : Nat} (ha : a < l.length) (hb : b < l.length) (hi : i < l.length) : (swp l a b).getD i fl0 = l.getD (swi a b i) fl0 := by
  unfold swp swi
  rw [getD_set _ _ _ _ (by rw [List.length_set]; exact hi), getD_set _ _ _ _ hi]
  by_cases e1 : i = b
  · subst e1
    simp
  · rw [if_neg (fun e => e1 e.symm), if_neg e1]
    by_cases e2 : i = a
    · subst e2
      simp
    · rw [if_neg (fun e => e2 e.symm), if_neg e2]
theorem mem_cos {l : List Fl} {f : Co} : f ∈ cos l ↔ ∃ i, i < l.length ∧ (l.getD i fl0).c = f := by
  unfold cos
  rw [List.mem_map]
  constructor
  · rintro ⟨x, hx, rfl⟩
    obtain ⟨i, hi, rfl⟩ := List.mem_iff_getElem.1 hx
    exact ⟨i, hi, by simp [List.getD, hi]⟩
  · rintro ⟨i, hi, rfl⟩
    refine ⟨l[i], List.getElem_mem hi, by simp [List.getD, hi]⟩
theorem swp_mem {l : List Fl} {a b : Nat} (ha : a < l.length) (hb : b < l.length) (f : Co) : f ∈ cos (swp l a b) ↔ f ∈ cos l := by
  rw [mem_cos, mem_cos]
  constructor
  · rintro ⟨i, hi, e⟩
    rw [swp_len] at hi
    rw [swp_get ha hb hi] at e
    exact ⟨_, swi_lt ha hb hi, e⟩
  · rintro ⟨i, hi, e⟩
    refine ⟨swi a b i, by rw [swp_len]; exact swi_lt ha hb hi, ?_⟩
    rw [swp_get ha hb (swi_lt ha hb hi), swi_swi]
    exact e
structure Tu (w0 w : World) (L ma mc : Nat) (fs ys : List Fl) : Prop where
  len : ys.length = L
  o : w.ownsRow w0.heap.size 35 7 (.slice (some ⟨ma, 0, none⟩) L mc) L (flCells ys)
  ok : ∀ k, k < L → ∃ j, j < L ∧ OnOk w (ys.getD k fl0) (fs.getD j fl0)
  m : ∀ f, f ∈ cos ys ↔ f ∈ cos fs
  b : Below w0.heap.size w0 w
section
variable {w0 : World} {L ma mc : Nat} {fs ys : List Fl}
theorem Tu.still (h : Tu w0 w L ma mc fs ys) (hb : Below w.heap.size w w') : Tu w0 w' L ma mc fs ys := ⟨h.len, own_still h.o hb, fun k hk => by obtain ⟨j, hj, e⟩ := h.ok k hk; exact ⟨j, hj, e.still hb⟩, h.m, bstep h.b hb⟩
theorem Tu.swap (h : Tu w0 w L ma mc fs ys) {a b : Nat} (ha : a < L) (hb : b < L) (ho : w'.ownsRow w0.heap.size 35 7 (.slice (some ⟨ma, 0, none⟩) L mc) L (flCells (swp ys a b))) (hk : Kept w w' (fun j => j = ma)) : Tu w0 w' L ma mc fs (swp ys a b) := by
  refine ⟨by rw [swp_len, h.len], ho, fun k hk2 => ?_, fun f => ?_, ?_⟩
  · rw [swp_get (by rw [h.len]; exact ha) (by rw [h.len]; exact hb) (by rw [h.len]; exact hk2)]
    obtain ⟨j, hj, e⟩ := h.ok (swi a b k) (swi_lt ha hb hk2)
    exact ⟨j, hj, e.keep h.o (hk.mono fun q _ e => by subst e; rfl)⟩
  · rw [swp_mem (by rw [h.len]; exact ha) (by rw [h.len]; exact hb), h.m]
  · refine h.b.trans (hk.below h.b.size (fun q hq e => ?_))
    have := (row_cells h.o (show (Value.slice (some ⟨ma, 0, none⟩) L mc).ownBlock = some ma from rfl)).1
    omega
end
theorem own_nil2 {B t k n c : Nat} {a : Option Addr} {l : List Value} (h : w.ownsRow B t k (.slice a n c) n l) : a = none → n = 0 ∧ c = 0 := fun e => by
  subst e
  rcases h.2 with ⟨h1, h2⟩ | ⟨g, cap, cur, hv, _⟩
  · simp at h1
    exact ⟨h2, h1.2⟩
  · simp at hv
theorem OnOk.inn {x f : Fl} {W : World} (h : OnOk w x f) (hf : f.In W) : x.In w :=
  ⟨h.rd hf.rd, by rw [h.ce]; exact own_nil2 h.s, by rw [h.ce]; exact own_nil2 h.h, by rw [h.ce]; exact hf.sn, by rw [h.ce]; exact hf.hn⟩
theorem Tu.rd {w0 : World} {L ma mc : Nat} {fs ys : List Fl} {W : World} (h : Tu w0 w L ma mc fs ys) (hi : ∀ k, k < L → (fs.getD k fl0).In W) : RdFs w (some ⟨ma, 0, none⟩) ys := ⟨by rw [h.len]; exact own_row h.o (fun i hh => flCells_at _ i (by rw [h.len]; exact hh)), fun i hh => by
  obtain ⟨j, hj, e⟩ := h.ok i (by rw [← h.len]; exact hh)
  exact e.rd (hi j hj).rd⟩
theorem cos_snoc {l : List Fl} {x : Fl} {r : Nat} (hr : r < l.length) (e : x.c = (l.getD r fl0).c) (f : Co) : f ∈ cos (l ++ [x]) ↔ f ∈ cos l := by
  have : cos (l ++ [x]) = cos l ++ [x.c] := by simp [cos]
  rw [this, List.mem_append, List.mem_singleton]
  refine ⟨fun h => h.elim id (fun h => ?_), .inl⟩
  rw [h, e]
  exact mem_cos.2 ⟨r, hr, rfl⟩
theorem Tu.snoc {w0 : World} {L ma mc : Nat} {fs ys : List Fl} {W : World} {x : Fl} {v' : Value} (h : Tu w0 w L ma mc fs ys) (hi : ∀ k, k < L → (fs.getD k fl0).In W) {r : Nat} (hr : r < L) (hx : OnOk w x (ys.getD r fl0)) (ho : w'.ownsRow w0.heap.size 35 7 v' (L + 1) (flCells ys ++ x.cs)) (hk : Kept w w' (fun j => (Value.slice (some ⟨ma, 0, none⟩) L mc).ownBlock = some j)) : ∃ a c, v' = .slice a (ys ++ [x]).length c ∧ RdFs w' a (ys ++ [x]) ∧ (∀ f, f ∈ cos (ys ++ [x]) ↔ f ∈ cos fs) ∧ Below w0.heap.size w0 w' := by
  have hl : (ys ++ [x]).length = L + 1 := by simp [h.len]
  rw [← flCells_app] at ho
  obtain ⟨a, c, rfl⟩ : ∃ a c, v' = .slice a (L + 1) c := by
    rcases ho.2 with ⟨_, h0⟩ | ⟨g, cap, cur, e, _⟩
    · omega
    · exact ⟨_, _, e⟩
  refine ⟨a, c, by rw [hl], ⟨by rw [hl]; exact own_row ho (fun i hh => flCells_at _ i (by rw [hl]; exact hh)), fun i hh => ?_⟩, fun f => by rw [cos_snoc (by rw [h.len]; exact hr) hx.ce, h.m], ?_⟩
  · rw [hl] at hh
    by_cases e : i < L
    · have : (ys ++ [x]).getD i fl0 = ys.getD i fl0 := by
        have h2 := h.len
        simp [List.getD, List.getElem?_append, show i < ys.length by omega]
      rw [this]
      obtain ⟨j, hj, e2⟩ := h.ok i e
      exact (e2.keep h.o hk).rd (hi j hj).rd
    · have h2 := h.len
      have : (ys ++ [x]).getD i fl0 = x := by
        obtain rfl : i = ys.length := by omega
        simp [List.getD]
      rw [this]
      obtain ⟨j, hj, e2⟩ := h.ok r hr
      exact (hx.keep h.o hk).rd ((e2.keep h.o hk).rd (hi j hj).rd)
  · refine h.b.trans (hk.below h.b.size (fun q hq e => ?_))
    have := (row_cells h.o e).1
    omega
structure Mx where
  ao : Option Addr
  cp : Nat
  fs : List Fl
  ta : Option Addr
  tn : Nat
  tc : Nat
  tw : Int
  far : Int
  more : Int
  ma : Option Addr
  mn : Nat
  mc : Nat
def Mx.cs (m : Mx) : List Value := [.slice m.ao m.fs.length m.cp, .slice m.ta m.tn m.tc, .int .i64 m.tw, .int .i64 m.far, .int .i64 m.more, .slice m.ma m.mn m.mc]
theorem zFl : (Try.prog.info? 35).map (·.zero) = some (some (.agg #[.int .i64 0, .int .i64 0, .int .i64 0, .int .i64 0, .int .i64 0, .slice none 0 0, .slice none 0 0])) := by kernel_rfl
theorem flOne (f : Fl) : ∀ u ∈ f.cs, u.oneCell' = true := by
  intro u hu
  simp only [Fl.cs, List.mem_cons, List.not_mem_nil, or_false] at hu
  rcases hu with rfl | rfl | rfl | rfl | rfl | rfl | rfl <;> rfl
theorem there_off {g o n : Nat} (h : w.there g o n) : w.there g (0 + o) n := by rw [Nat.zero_add]; exact h
set_option maxHeartbeats 16000000 in
theorem turned_any {m : Mx} {ts : List Int} (hr : RdFs w m.ao m.fs) (hi : ∀ k, k < m.fs.length → (m.fs.getD k fl0).In w) (h1 : 1 ≤ m.fs.length) (h16 : m.fs.length ≤ 16) (ht : RdI w m.ta ts) (htl : ts.length = m.tn) (htn : m.tn ≤ 1048576) : Calls Try.prog 17 #[.agg m.cs.toArray] w fun e w' => ∃ a c ys, e = .returned (.slice a (ys : List Fl).length c) ∧ (∀ f, f ∈ cos ys ↔ f ∈ cos m.fs) ∧ ys.length ≤ 16 ∧ RdFs w' a ys ∧ Below w.heap.size w w' := by
  generalize hW1 : w.alloc (.cells m.cs.toArray 46) = W1
  have b1 : Below w.heap.size w W1 := hW1 ▸ balloc (Below.refl _ _)
  have k1 : W1.heap[w.heap.size]? = some (.cells m.cs.toArray 46 (0, 0)) := by rw [← hW1]; exact heap_alloc_new w _
  have HB1 : Hid (Below w.heap.size w W1) := b1
  have HTs : Hid (RdI W1 m.ta ts) := ht.still b1
  have HTl : Hid (ts.length = m.tn) := htl
  have HMy := many_my (w := W1) (cp := m.cp) (hr.still b1) (fun k hk => (hi k hk).still b1) (by omega)
  have HI : Hid (∀ k, k < m.fs.length → (m.fs.getD k fl0).In W1) := fun k hk => (hi k hk).still b1
  have HCs : Hid (∀ X : World, Below W1.heap.size W1 X → X.cell? ⟨w.heap.size, 0, none⟩ = some (.slice m.ao m.fs.length m.cp) ∧ X.cell? ⟨w.heap.size, 1, none⟩ = some (.slice m.ta m.tn m.tc) ∧ X.cell? ⟨w.heap.size, 2, none⟩ = some (.int .i64 m.tw)) := fun X hX => ⟨blk_cell (blk_on hX k1) 0, blk_cell (blk_on hX k1) 1, blk_cell (blk_on hX k1) 2⟩
  obtain ⟨ii, ihi, ihz0, ihz1, ihz2⟩ := flush_info
  clear hr hi b1 k1 ht htl
  generalize m.cs.toArray = pc at hW1 ⊢
  generalize hfs : m.fs = fs at *
  generalize hL : fs.length = L at *
  have HLe : Hid (fs.length = L) := hL
  generalize m.tn = tn at *
  generalize m.ta = ta at *
  generalize m.tc = tc at *
  generalize m.tw = tw at *
  generalize m.ao = ao at *
  generalize m.cp = cp at *
  clear hfs hL
  have HAt : Hid (∀ v X, Calls Try.prog 18 #[.int .i64 v, .int .i64 (L : Int)] X fun e w' => ∃ r : Nat, r < L ∧ e = .returned (.int .i64 (r : Int)) ∧ X = w') := fun v X => at_any v L h1 (by omega)
  go_enter Try.func17, Try.ntmps17
  obtain ⟨q0, -, -⟩ := HCs.out W1 (Below.refl _ _)
  go_upto_region 2 with (first
    | (go_at_call 7; refine HMy.mono ?_; rintro e V1 ⟨ad, mc, xs, rfl, hmy⟩; have HM1 : Hid (My W1 V1 L (.slice (some ad) L mc) xs fs) := hmy; clear hmy)
    | fail)
  obtain ⟨ma, rfl⟩ : ∃ ma, ad = ⟨ma, 0, none⟩ := by
    rcases HM1.out.o.2 with ⟨e, _⟩ | ⟨g, cap, cur, e, _⟩
    · cases e
    · simp at e; exact ⟨g, e.1⟩
  have HU0 : Hid (∃ ys, Tu W1 V1 L ma mc fs ys) := ⟨xs, HM1.out.len, HM1.out.o, fun k hk => ⟨k, hk, HM1.out.ok k hk⟩, fun f => by
    rw [mem_cos, mem_cos, HM1.out.len, HLe.out]
    constructor
    · rintro ⟨i, hi, e⟩; exact ⟨i, hi, by rw [← (HM1.out.ok i hi).ce]; exact e⟩
    · rintro ⟨i, hi, e⟩; exact ⟨i, hi, by rw [(HM1.out.ok i hi).ce]; exact e⟩, HM1.out.b⟩
  clear q0 HMy hW1 HM1
  generalize hkb : w.heap.size = kb at HCs ⊢
  have Hkb : Hid (w.heap.size = kb) := hkb
  clear hkb
  have hL16 : (L : Int) ≤ 16 := by omega
  have hL1 : (1 : Int) ≤ (L : Int) := by omega
  go_wp2
  go_loopw [4] (fun i wr => ∃ c : Nat, c ≤ 40 ∧ c ≤ tn ∧ i = .int .i64 c ∧ ∃ ys, Tu W1 wr L ma mc fs ys) (fun i _ => 40 - (intOf i).toNat)
  case atStart => exact ⟨0, Nat.zero_le _, Nat.zero_le _, rfl, HU0.out⟩
  case round =>
    obtain ⟨c, hc, hc2, rfl, ys, hu⟩ := hrel
    have HU : Hid (Tu W1 wr L ma mc fs ys) := hu
    clear hu HU0
    have i1 : (0 : Int) ≤ (c : Int) := Int.natCast_nonneg _
    obtain ⟨-, q1, q2⟩ := HCs.out wr HU.out.b
    by_cases hlt : c < tn ∧ c < 40
    · obtain ⟨hc3, hc4⟩ := hlt
      have i2 : (c : Int) < (tn : Int) := by omega
      have i3 : (c : Int) < 40 := by omega
      obtain ⟨tb, tof, rfl, hct⟩ := (HTs.out.still HU.out.b).at (i := c) (by rw [HTl.out]; exact hc3)
      generalize ts.getD c 0 = y at *
      go_upto_region 7 with (first
        | (go_at_call 18; have hz := HRa; refine (HAt.out _ _).mono ?_; rintro e Vb ⟨rb, hrb, rfl, rfl⟩; have HRb : Hid (rb < L) := hrb; clear hrb hz)
        | (go_at_call 18; refine (HAt.out _ _).mono ?_; rintro e Va ⟨ra, hra, rfl, rfl⟩; have HRa : Hid (ra < L) := hra; clear hra)
        | fail)
      have ra0 : (0 : Int) ≤ (ra : Int) := Int.natCast_nonneg _
      have ra1 : (ra : Int) < (L : Int) := by have := HRa.out; omega
      have rb0 : (0 : Int) ≤ (rb : Int) := Int.natCast_nonneg _
      have rb1 : (rb : Int) < (L : Int) := by have := HRb.out; omega
      have HLa : Hid (wr.rangeAt ma (ra * 7) (ys.getD ra fl0).cs) := own_rangeF HU.out.o HU.out.len HRa.out
      have Hla7 : Hid ((ys.getD ra fl0).cs.length = 7) := rfl
      have HYa : Hid (swp ys ra rb = (ys.set ra (ys.getD rb fl0)).set rb (ys.getD ra fl0)) := rfl
      have HBq : Hid (Below W1.heap.size W1 wr) := HU.out.b
      have Hlb7 : Hid ((ys.getD rb fl0).cs.length = 7) := rfl
      have HLb : Hid (∀ X, Below wr.heap.size wr X → X.rangeAt ma (rb * 7) (ys.getD rb fl0).cs) := fun X hX => own_rangeF (own_still HU.out.o hX) HU.out.len HRb.out
      have HPa : Hid (∀ X, Below wr.heap.size wr X → X.there ma (ra * 7) 7 ∧ (X.setCells ma (ra * 7) (ys.getD rb fl0).cs).ownsRow W1.heap.size 35 7 (.slice (some ⟨ma, 0, none⟩) L mc) L (flCells (ys.set ra (ys.getD rb fl0)))) := fun X hX => by
        obtain ⟨p1, p2, p3⟩ := own_putF (own_still HU.out.o hX) HU.out.len HRa.out (ys.getD rb fl0)
        exact ⟨p1, p3⟩
      have HPb : Hid (∀ X : World, X.ownsRow W1.heap.size 35 7 (.slice (some ⟨ma, 0, none⟩) L mc) L (flCells (ys.set ra (ys.getD rb fl0))) → X.there ma (rb * 7) 7 ∧ (X.setCells ma (rb * 7) (ys.getD ra fl0).cs).ownsRow W1.heap.size 35 7 (.slice (some ⟨ma, 0, none⟩) L mc) L (flCells (swp ys ra rb))) := fun X hX => by
        obtain ⟨p1, p2, p3⟩ := own_putF hX (by rw [List.length_set]; exact HU.out.len) HRb.out (ys.getD ra fl0)
        exact ⟨p1, p3⟩
      clear q1 q2 hct HYa
      have Hone1 : Hid (∀ u ∈ (ys.getD ra fl0).cs, u.oneCell' = true) := flOne _
      have Hone2 : Hid (∀ u ∈ (ys.getD rb fl0).cs, u.oneCell' = true) := flOne _
      have HMa : Hid (ma < wr.heap.size) := (show ma < wr.heap.size from by
        obtain ⟨_, cur, hcur⟩ := row_cells HU.out.o (show (Value.slice (some ⟨ma, 0, none⟩) L mc).ownBlock = some ma from rfl)
        exact (Array.getElem?_eq_some_iff.1 hcur).1)
      generalize (ys.getD ra fl0).cs = la at *
      generalize (ys.getD rb fl0).cs = lb at *
      go_wp2_with (first
        | (refine load_mid 35 (.tmp 36) HLa.out _ Try.underlying35 rfl (by rw [Hla7.out]; exact info_flush) rfl rfl rfl ?_)
        | (refine wl_allocZ rfl 35 rfl zFl ?_; intro Z1 kz1 bz1 sz1; have KZ1 : Hid _ := kz1; have BZ1 : Hid (Below wr.heap.size wr Z1) := bz1; clear kz1 bz1 sz1)
        | (refine wl_storeZ rfl 35 _ _ rfl (L := la) rfl rfl KZ1.out (by rw [Hla7.out]; exact info_flush) (by rw [Hla7.out]; rfl) Hone1.out ?_; intro Z2 kz2 hkz2; have KZ2 : Hid (Z2.heap[wr.heap.size]? = some (.cells la.toArray 35 (0, 0))) := kz2; have BZ2 : Hid (Below wr.heap.size wr Z2) := BZ1.out.trans (hkz2.below BZ1.out.size (fun q hq e => by omega)); clear kz2 hkz2)
        | (refine load_mid 35 (.tmp 42) (HLb.out Z2 BZ2.out) _ Try.underlying35 rfl (by rw [Hlb7.out]; exact info_flush) rfl rfl rfl ?_)
        | (refine wl_storeM rfl 35 _ _ rfl (g := ma) (off := ra * 7) (L := lb) rfl rfl (by rw [Hlb7.out]; exact (HPa.out Z2 BZ2.out).1) (by rw [Hlb7.out]; exact info_flush) Hone2.out ?_; have HO3 : Hid ((Z2.setCells ma (ra * 7) lb).ownsRow W1.heap.size 35 7 (.slice (some ⟨ma, 0, none⟩) L mc) L (flCells (ys.set ra (ys.getD rb fl0)))) := (HPa.out Z2 BZ2.out).2; have HK3 : Hid (Kept Z2 (Z2.setCells ma (ra * 7) lb) (fun j => j = ma)) := ksets (P := fun j => j = ma) rfl _ _ _; generalize Z2.setCells ma (ra * 7) lb = Z3 at *; have HLx : Hid (Z3.rangeAt wr.heap.size 0 la) := blk_range (HK3.out.obj KZ2.out (fun e => by have := HMa.out; omega)))
        | (refine load_mid 35 (.tmp 7) HLx.out _ Try.underlying35 rfl (by rw [Hla7.out]; exact info_flush) rfl rfl rfl ?_)
        | (refine wl_storeM rfl 35 _ _ rfl (g := ma) (off := rb * 7) (L := la) rfl rfl (by rw [Hla7.out]; exact (HPb.out Z3 HO3.out).1) (by rw [Hla7.out]; exact info_flush) Hone1.out ?_; have HO4 : Hid ((Z3.setCells ma (rb * 7) la).ownsRow W1.heap.size 35 7 (.slice (some ⟨ma, 0, none⟩) L mc) L (flCells (swp ys ra rb))) := (HPb.out Z3 HO3.out).2; have HK4 : Hid (Kept Z3 (Z3.setCells ma (rb * 7) la) (fun j => j = ma)) := ksets (P := fun j => j = ma) rfl _ _ _; generalize Z3.setCells ma (rb * 7) la = Z4 at *)
        | fail)
      have HU4 : Hid (Tu W1 Z4 L ma mc fs (swp ys ra rb)) := (HU.out.still BZ2.out).swap HRa.out HRb.out HO4.out (HK3.out.trans HK4.out)
      exact ⟨⟨c + 1, by omega, by omega, by go_num, _, HU4.out⟩, by simp [intOf]; omega⟩
    · by_cases hct : c < tn
      · have i2 : (c : Int) < (tn : Int) := by omega
        have i3 : ¬ (c : Int) < 40 := by omega
        by_cases hl : L < 16
        · have hl2 : (L : Int) < 16 := by omega
          have HOn : Hid (∀ r, r < L → Calls Try.prog 11 #[.agg (ys.getD r fl0).cs.toArray] wr fun e w' => ∃ x : Fl, e = .returned (.agg x.cs.toArray) ∧ OnOk w' x (ys.getD r fl0) ∧ Below wr.heap.size wr w') := fun r hr => by
            obtain ⟨j, hj, e⟩ := HU.out.ok r hr
            exact one_any (e.inn (HI.out j hj))
          have HLr : Hid (∀ r, r < L → wr.rangeAt ma (r * 7) (ys.getD r fl0).cs) := fun r hr => own_rangeF HU.out.o HU.out.len hr
          go_upto_region 11 with fail
          go_wp2_with (first
            | (go_at_call 18; refine (HAt.out _ _).mono ?_; rintro e Va ⟨r, hra, rfl, rfl⟩; have HRa : Hid (r < L) := hra; clear hra; have ra0 : (0 : Int) ≤ (r : Int) := Int.natCast_nonneg _; have ra1 : (r : Int) < (L : Int) := (by have := HRa.out; omega))
            | (refine load_mid 35 (.tmp 59) (HLr.out r HRa.out) _ Try.underlying35 rfl (by exact info_flush) rfl rfl rfl ?_)
            | (go_at_call 11; refine (HOn.out r HRa.out).mono ?_; rintro e Vo ⟨x, rfl, hx, hvo⟩; have HX : Hid (OnOk Vo x (ys.getD r fl0)) := hx; have BVo : Hid (Below wr.heap.size wr Vo) := hvo; clear hx hvo)
            | (refine wl_bsl rfl 22 35 1 _ rfl Try.underlying22 x.cs.toArray (bsl_eq (by kernel_rfl) (bFl x)) ?_; intro Z1 kz1 bz1 sz1; have KZ1 : Hid _ := kz1; have BZ1 : Hid (Below Vo.heap.size Vo Z1) := bz1; clear kz1 bz1 sz1; have HUz : Hid (Tu W1 Z1 L ma mc fs ys) := (HU.out.still BVo.out).still BZ1.out)
            | (refine app_g rfl _ _ 22 rfl W1.heap.size 35 ii (.agg #[.int .i64 0, .int .i64 0, .int .i64 0, .int .i64 0, .int .i64 0, .slice none 0 0, .slice none 0 0]) 7 88 Try.underlying22 ihi ihz0 ihz1 ihz2 rfl (by omega) (.slice (some ⟨ma, 0, none⟩) L mc) L (flCells ys) rfl HUz.out.o (some ⟨Vo.heap.size, 0, none⟩) 1 1 x.cs rfl (fun h => by cases h) rfl (fun ad had j u hu => by cases had; rw [Addr.add_lit, Nat.zero_add, blk_cell KZ1.out]; simpa using hu) (flOne x) (by unfold maxLen; omega) (by omega) HUz.out.b.size ?_; intro v2 Z2 ho2 hk2 hob2)
            | fail)
          obtain ⟨a, cc, rfl, hrd, hmm, hbb⟩ := HUz.out.snoc HI.out HRa.out (HX.out.still BZ1.out) ho2.out hk2.out
          go_wp2
          go_ret
          refine ⟨a, cc, ys ++ [x], rfl, hmm, by rw [List.length_append, HUz.out.len]; simp; omega, hrd, bstep HB1.out hbb⟩
        · have hl2 : ¬ (L : Int) < 16 := by omega
          have hyl := HU.out.len
          go_wp2
          go_ret
          exact ⟨some ⟨ma, 0, none⟩, mc, ys, by rw [hyl]; rfl, HU.out.m, by rw [hyl]; exact h16, HU.out.rd HI.out, bstep HB1.out HU.out.b⟩
      · have i2 : ¬ (c : Int) < (tn : Int) := by omega
        by_cases hl : L < 16
        · have hl2 : (L : Int) < 16 := by omega
          have HOn : Hid (∀ r, r < L → Calls Try.prog 11 #[.agg (ys.getD r fl0).cs.toArray] wr fun e w' => ∃ x : Fl, e = .returned (.agg x.cs.toArray) ∧ OnOk w' x (ys.getD r fl0) ∧ Below wr.heap.size wr w') := fun r hr => by
            obtain ⟨j, hj, e⟩ := HU.out.ok r hr
            exact one_any (e.inn (HI.out j hj))
          have HLr : Hid (∀ r, r < L → wr.rangeAt ma (r * 7) (ys.getD r fl0).cs) := fun r hr => own_rangeF HU.out.o HU.out.len hr
          go_upto_region 11 with fail
          go_wp2_with (first
            | (go_at_call 18; refine (HAt.out _ _).mono ?_; rintro e Va ⟨r, hra, rfl, rfl⟩; have HRa : Hid (r < L) := hra; clear hra; have ra0 : (0 : Int) ≤ (r : Int) := Int.natCast_nonneg _; have ra1 : (r : Int) < (L : Int) := (by have := HRa.out; omega))
            | (refine load_mid 35 (.tmp 59) (HLr.out r HRa.out) _ Try.underlying35 rfl (by exact info_flush) rfl rfl rfl ?_)
            | (go_at_call 11; refine (HOn.out r HRa.out).mono ?_; rintro e Vo ⟨x, rfl, hx, hvo⟩; have HX : Hid (OnOk Vo x (ys.getD r fl0)) := hx; have BVo : Hid (Below wr.heap.size wr Vo) := hvo; clear hx hvo)
            | (refine wl_bsl rfl 22 35 1 _ rfl Try.underlying22 x.cs.toArray (bsl_eq (by kernel_rfl) (bFl x)) ?_; intro Z1 kz1 bz1 sz1; have KZ1 : Hid _ := kz1; have BZ1 : Hid (Below Vo.heap.size Vo Z1) := bz1; clear kz1 bz1 sz1; have HUz : Hid (Tu W1 Z1 L ma mc fs ys) := (HU.out.still BVo.out).still BZ1.out)
            | (refine app_g rfl _ _ 22 rfl W1.heap.size 35 ii (.agg #[.int .i64 0, .int .i64 0, .int .i64 0, .int .i64 0, .int .i64 0, .slice none 0 0, .slice none 0 0]) 7 88 Try.underlying22 ihi ihz0 ihz1 ihz2 rfl (by omega) (.slice (some ⟨ma, 0, none⟩) L mc) L (flCells ys) rfl HUz.out.o (some ⟨Vo.heap.size, 0, none⟩) 1 1 x.cs rfl (fun h => by cases h) rfl (fun ad had j u hu => by cases had; rw [Addr.add_lit, Nat.zero_add, blk_cell KZ1.out]; simpa using hu) (flOne x) (by unfold maxLen; omega) (by omega) HUz.out.b.size ?_; intro v2 Z2 ho2 hk2 hob2)
            | fail)
          obtain ⟨a, cc, rfl, hrd, hmm, hbb⟩ := HUz.out.snoc HI.out HRa.out (HX.out.still BZ1.out) ho2.out hk2.out
          go_wp2
          go_ret
          refine ⟨a, cc, ys ++ [x], rfl, hmm, by rw [List.length_append, HUz.out.len]; simp; omega, hrd, bstep HB1.out hbb⟩
        · have hl2 : ¬ (L : Int) < 16 := by omega
          have hyl := HU.out.len
          go_wp2
          go_ret
          exact ⟨some ⟨ma, 0, none⟩, mc, ys, by rw [hyl]; rfl, HU.out.m, by rw [hyl]; exact h16, HU.out.rd HI.out, bstep HB1.out HU.out.b⟩
end
end Go.Proofs.Ytpkcgjnaegaecaa.Fm
