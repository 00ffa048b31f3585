import Derived.Test.YthogcanfinjfdaaJe
namespace Go.Proofs.Ythogcanfinjfdaa.Et
open Go.RowKit Go.Maps
set_option linter.unusedVariables false
set_option linter.unusedSimpArgs false
set_option maxRecDepth 100000
section
variable {E E1 E' : En} {w w' w1 w2 w3 : World} {B K m b d late r : Nat} {iv jv c0 : Int}
theorem inv_new (b bn bc bd n : Nat) (r : Int) (h3 : 1 ≤ r) (h4 : r ≤ 20000) : Inv (newE b bn bc bd n r n) 0 :=
  ⟨⟨h3, h4⟩, by show ((0 : Nat) : Int) ≤ r; omega, Nat.le_refl _, fun f hf => (by cases hf), ⟨Int.le_refl _, Int.le_refl _⟩, List.Pairwise.nil, fun f hf => (by cases hf), ⟨Int.le_refl _, Int.le_refl _⟩, fun f hf => (by cases hf)⟩
structure Qt (E : En) (b : Nat) (iv jv c0 : Int) (d late r K : Nat) : Prop where
  inv : Inv E K
  eb : E.b = b
  cut : E.cut 0 1 = false
  up1 : E.up 1 = true
  ck : E.clock = c0 + (r : Int) - 1
  fi : r ≤ d → Has E iv (c0 + d)
  gi : d < r → Hasnt E iv
  fj : r ≤ d + late → Has E jv (c0 + d + late)
  gj : d + late < r → Hasnt E jv
theorem Qt.ckn (q : Qt E b iv jv c0 d late r K) (hK : K ≤ 2199023255551) : ckN E = c0 + (r : Int) := by
  rw [ck_is q.inv hK, q.ck]; omega
theorem Qt.cnti (q : Qt E b iv jv c0 d late r K) (hK : K ≤ 2199023255551) : cnt ((E.fs.filter (comes E)).map Fx.d) iv = if r = d then 1 else 0 := by
  have hc := q.ckn hK
  by_cases h : r ≤ d
  · rw [come_cnt q.inv q.cut q.up1 (q.fi h), hc]
    by_cases e : r = d
    · rw [if_pos (by omega), if_pos e]
    · rw [if_neg (by omega), if_neg e]
  · rw [come_none (q.gi (by omega)), if_neg (by omega)]
theorem Qt.cntj (q : Qt E b iv jv c0 d late r K) (hK : K ≤ 2199023255551) : cnt ((E.fs.filter (comes E)).map Fx.d) jv = if r = d + late then 1 else 0 := by
  have hc := q.ckn hK
  by_cases h : r ≤ d + late
  · rw [come_cnt q.inv q.cut q.up1 (q.fj h), hc]
    by_cases e : r = d + late
    · rw [if_pos (by omega), if_pos e]
    · rw [if_neg (by omega), if_neg e]
  · rw [come_none (q.gj (by omega)), if_neg (by omega)]
theorem Qt.round (q : Qt E b iv jv c0 d late r K) (hK : K ≤ 2199023255551) : Qt { E with clock := ckN E, fs := E.fs.filter (stays E) } b iv jv c0 d late (r + 1) (K + 1) := by
  have hc := q.ckn hK
  refine ⟨inv_round q.inv hK, q.eb, q.cut, q.up1, ?_, ?_, ?_, ?_, ?_⟩
  · show ckN E = _
    rw [hc]; omega
  · intro h
    exact round_has (q.fi (by omega)) (by rw [hc]; omega)
  · intro h
    by_cases h2 : r ≤ d
    · exact round_gone q.inv (q.fi h2) (by rw [hc]; omega)
    · exact round_hasnt (q.gi (by omega))
  · intro h
    exact round_has (q.fj (by omega)) (by rw [hc]; omega)
  · intro h
    by_cases h2 : r ≤ d + late
    · exact round_gone q.inv (q.fj h2) (by rw [hc]; omega)
    · exact round_hasnt (q.gj (by omega))
theorem Qt.end_i (q : Qt E b iv jv c0 d late r K) (h : d < r) : cnt (E.fs.map Fx.d) iv = 0 := cnt_zero (q.gi h)
theorem Qt.end_j (q : Qt E b iv jv c0 d late r K) (h : d + late < r) : cnt (E.fs.map Fx.d) jv = 0 := cnt_zero (q.gj h)
theorem qt_first {f : Fx} {a : Option Addr} {c : Nat} {f2 : Fx} {a2 : Option Addr} {c2 : Nat} (h : Inv E K) (hK : K ≤ 2199023255551) (hd1 : 1 ≤ d) (hc : E.cut 0 1 = false) (hu : E.up 1 = true) (x1 : Nx E (added E f a c) K) (e1 : f.id = E.last + 1) (e2 : f.due = E.clock + d) (e3 : f.src = 0) (e4 : f.dst = 1) (x2 : Nx (added E f a c) (added (added E f a c) f2 a2 c2) (K + 1)) (g1 : f2.id = (added E f a c).last + 1) (g2 : f2.due = (added E f a c).clock + d) (g3 : f2.src = 0) (g4 : f2.dst = 1) : Qt (added (added E f a c) f2 a2 c2) E.b (E.last + 1) (E.last + 1 + 1) E.clock d 0 1 (K + 2) := by
  have hw := wN_is h hK
  have hl : (added E f a c).last = E.last + 1 := hw
  refine ⟨x2.inv, rfl, hc, hu, by show E.clock = _; omega, fun _ => ?_, fun hh => by omega, fun _ => ?_, fun hh => by omega⟩
  · exact add_has ⟨f, List.mem_append_right _ (List.mem_singleton.2 rfl), e1, e2, e3, e4⟩
  · exact ⟨f2, List.mem_append_right _ (List.mem_singleton.2 rfl), by rw [g1, hl], by rw [g2]; show E.clock + d = _; omega, g3, g4⟩
theorem gap_cnt {f : Fx} {a : Option Addr} {c : Nat} (h : Inv E K) (hK : K + 2 ≤ 2199023255551) (hc : E.cut 0 1 = false) (hu : E.up 1 = true) (x1 : Nx E (added E f a c) K) (e1 : f.id = E.last + 1) (e2 : f.due = E.clock + d) (e3 : f.src = 0) (e4 : f.dst = 1) : cnt (((added E f a c).fs.filter (comes (added E f a c))).map Fx.d) (E.last + 1) = if d = 1 then 1 else 0 := by
  have hck : ckN (added E f a c) = E.clock + 1 := ck_is x1.inv (by omega)
  rw [come_cnt x1.inv hc hu ⟨f, List.mem_append_right _ (List.mem_singleton.2 rfl), e1, e2, e3, e4⟩, hck]
  by_cases e : d = 1
  · rw [if_pos (by omega), if_pos e]
  · rw [if_neg (by omega), if_neg e]
theorem qt_second {f : Fx} {a : Option Addr} {c : Nat} {f2 : Fx} {a2 : Option Addr} {c2 : Nat} (h : Inv E K) (hK : K + 2 ≤ 2199023255551) (hd1 : 1 ≤ d) (hc : E.cut 0 1 = false) (hu : E.up 1 = true) (x1 : Nx E (added E f a c) K) (e1 : f.id = E.last + 1) (e2 : f.due = E.clock + d) (e3 : f.src = 0) (e4 : f.dst = 1) (hE : E1 = { (added E f a c) with clock := ckN (added E f a c), fs := (added E f a c).fs.filter (stays (added E f a c)) }) (x2 : Nx E1 (added E1 f2 a2 c2) (K + 2)) (g1 : f2.id = E1.last + 1) (g2 : f2.due = E1.clock + d) (g3 : f2.src = 0) (g4 : f2.dst = 1) : Qt (added E1 f2 a2 c2) E.b (E.last + 1) (E.last + 1 + 1) E.clock d 1 2 (K + 3) := by
  have hw := wN_is h (by omega)
  have hl : (added E f a c).last = E.last + 1 := hw
  have hck : ckN (added E f a c) = E.clock + 1 := ck_is x1.inv (by omega)
  have hl1 : E1.last = E.last + 1 := by rw [hE]; exact hl
  have hc1 : E1.clock = E.clock + 1 := by rw [hE]; exact hck
  have hh : Has (added E f a c) (E.last + 1) (E.clock + d) := ⟨f, List.mem_append_right _ (List.mem_singleton.2 rfl), e1, e2, e3, e4⟩
  refine ⟨x2.inv, by rw [hE]; rfl, by rw [hE]; exact hc, by rw [hE]; exact hu, by show E1.clock = _; omega, fun hd => ?_, fun hd => ?_, fun _ => ?_, fun hh => by omega⟩
  · refine add_has ?_
    rw [hE]
    exact round_has hh (by rw [hck]; omega)
  · refine add_hasnt ?_ (by rw [g1, hl1]; omega)
    rw [hE]
    exact round_gone x1.inv hh (by rw [hck]; omega)
  · exact ⟨f2, List.mem_append_right _ (List.mem_singleton.2 rfl), by rw [g1, hl1], by rw [g2, hc1]; omega, g3, g4⟩
end
end Go.Proofs.Ythogcanfinjfdaa.Et
