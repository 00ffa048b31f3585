import Derived.Test.YtihcaopcfhbofaaX00
import Derived.Test.YtihcaopcfhbofaaX02
import Derived.Maps.OwnSet
import Derived.Maps.OwnOps
import Derived.DeepKeys4
namespace Go.Proofs.Ytihcaopcfhbofaa.Fm
open Go.RowKit Go.Maps Mb
set_option linter.unusedVariables false
set_option maxRecDepth 100000
set_option linter.unusedSimpArgs false
section
variable {w w' W : World} {B : Nat}
def Row (w : World) (ao : Option Addr) (n k : Nat) (f : Nat → Value) : Prop := n = 0 ∨ ∃ b off, ao = some ⟨b, off, none⟩ ∧ ∀ i, i < n * k → w.cell? ⟨b, off + i, none⟩ = some (f i)
theorem Row.still {ao : Option Addr} {n k : Nat} {f : Nat → Value} (h : Row w ao n k f) (hb : Below w.heap.size w w') : Row w' ao n k f := by
  rcases h with h | ⟨b, off, rfl, hc⟩
  · exact .inl h
  · exact .inr ⟨b, off, rfl, fun i hi => below_at hb (hc i hi)⟩
def RdI (w : World) (ao : Option Addr) (xs : List Int) : Prop := Row w ao xs.length 1 fun i => .int .i64 (xs.getD i 0)
def slotV (s : Int × Int) : List Value := [.int .i64 s.1, .int .i64 s.2]
def slotC (ss : List (Int × Int)) (i : Nat) : Value := (slotV (ss.getD (i / 2) z2)).getD (i % 2) undef
def RdS (w : World) (ao : Option Addr) (ss : List (Int × Int)) : Prop := Row w ao ss.length 2 (slotC ss)
theorem RdI.still {ao : Option Addr} {xs : List Int} (h : RdI w ao xs) (hb : Below w.heap.size w w') : RdI w' ao xs := Row.still h hb
theorem RdS.still {ao : Option Addr} {ss : List (Int × Int)} (h : RdS w ao ss) (hb : Below w.heap.size w w') : RdS w' ao ss := Row.still h hb
theorem RdI.at {ao : Option Addr} {xs : List Int} (h : RdI w ao xs) {i : Nat} (hi : i < xs.length) : ∃ b off, ao = some ⟨b, off, none⟩ ∧ w.cell? ⟨b, off + i, none⟩ = some (.int .i64 (xs.getD i 0)) := by
  rcases h with h | ⟨b, off, h1, h2⟩
  · omega
  · exact ⟨b, off, h1, h2 i (by omega)⟩
theorem RdS.at {ao : Option Addr} {ss : List (Int × Int)} (h : RdS w ao ss) {i : Nat} (hi : i < ss.length) : ∃ b off, ao = some ⟨b, off, none⟩ ∧ w.rangeAt b (off + i * 2) (slotV (ss.getD i z2)) ∧ w.cell? ⟨b, off + i * 2, none⟩ = some (.int .i64 (ss.getD i z2).1) ∧ w.cell? ⟨b, off + i * 2 + 1, none⟩ = some (.int .i64 (ss.getD i z2).2) := by
  rcases h with h | ⟨b, off, h1, h2⟩
  · omega
  · have e0 := h2 (i * 2) (by omega)
    have e1 := h2 (i * 2 + 1) (by omega)
    simp only [slotC, show i * 2 / 2 = i by omega, show (i * 2 + 1) / 2 = i by omega, show i * 2 % 2 = 0 by omega, show (i * 2 + 1) % 2 = 1 by omega, slotV, ← Nat.add_assoc] at e0 e1
    refine ⟨b, off, h1, fun j v hv => ?_, e0, e1⟩
    match j, hv with
    | 0, hv => cases hv; exact e0
    | 1, hv => cases hv; exact e1
    | j + 2, hv => cases hv
structure Fl where
  c : Co
  sa : Option Addr
  sc : Nat
  ha : Option Addr
  hc : Nat
def Vi.cs (v : Vi) : List Value := [.int .i64 v.e, .int .i64 v.l, .int .i64 v.i, .int .i64 v.c]
def Fl.cs (f : Fl) : List Value := [.int .i64 f.c.id.e, .int .i64 f.c.id.l, .int .i64 f.c.id.i, .int .i64 f.c.id.c, .int .i64 f.c.base, .slice f.sa f.c.sl.length f.sc, .slice f.ha f.c.hv.length f.hc]
def fl0 : Fl := ⟨c0, none, 0, none, 0⟩
def i64B (x : Int) : Prop := -9223372036854775808 ≤ x ∧ x ≤ 9223372036854775807
structure Fl.Rd (f : Fl) (w : World) : Prop where
  s : RdS w f.sa f.c.sl
  h : RdI w f.ha f.c.hv
  r : ∀ i, i < f.c.sl.length → i64B (f.c.sl.getD i z2).1 ∧ i64B (f.c.sl.getD i z2).2
  b : i64B f.c.base
  sn : f.c.sl.length ≤ 1000000000000000000
  hn : f.c.hv.length ≤ 1000000000000000000
theorem Fl.Rd.still {f : Fl} (h : f.Rd w) (hb : Below w.heap.size w w') : f.Rd w' := ⟨h.s.still hb, h.h.still hb, h.r, h.b, h.sn, h.hn⟩
def flC (fs : List Fl) (i : Nat) : Value := ((fs.getD (i / 7) fl0).cs).getD (i % 7) undef
structure RdFs (w : World) (ao : Option Addr) (fs : List Fl) : Prop where
  row : Row w ao fs.length 7 (flC fs)
  el : ∀ i, i < fs.length → (fs.getD i fl0).Rd w
theorem RdFs.still {ao : Option Addr} {fs : List Fl} (h : RdFs w ao fs) (hb : Below w.heap.size w w') : RdFs w' ao fs := ⟨h.row.still hb, fun i hi => (h.el i hi).still hb⟩
theorem Fl.cs_len (f : Fl) : f.cs.length = 7 := rfl
theorem RdFs.at {ao : Option Addr} {fs : List Fl} (h : RdFs w ao fs) {i : Nat} (hi : i < fs.length) : ∃ b off, ao = some ⟨b, off, none⟩ ∧ w.rangeAt b (off + i * 7) (fs.getD i fl0).cs := by
  rcases h.row with h1 | ⟨b, off, h1, h2⟩
  · omega
  · refine ⟨b, off, h1, fun j v hv => ?_⟩
    have hj : j < 7 := by have := (List.getElem?_eq_some_iff.1 hv).1; rwa [Fl.cs_len] at this
    have e := h2 (i * 7 + j) (by omega)
    simp only [flC, show (i * 7 + j) / 7 = i by omega, show (i * 7 + j) % 7 = j by omega] at e
    rw [← Nat.add_assoc] at e
    rw [e, List.getD, hv]
    rfl
def cos (fs : List Fl) : List Co := fs.map (·.c)
theorem cos_len (fs : List Fl) : (cos fs).length = fs.length := by simp [cos]
theorem cos_at (fs : List Fl) (i : Nat) : (cos fs).getD i c0 = (fs.getD i fl0).c := by
  simp only [cos, List.getD, List.getElem?_map]
  cases fs[i]? <;> rfl
theorem laidOut : laidOutB Try.prog = true := by kernel_rfl
theorem rowSlot : (70 : TypeId) < Try.prog.types.size := of_decide_eq_true (by kernel_rfl)
theorem wideSlot : (match Try.prog.underlying 70 with | some (.array _ _) | some (.struct _) => true | _ => false) = true := by rw [Try.underlying70]
theorem keyT : Try.prog.keyTypeAt 2 70 = true := by kernel_rfl
theorem klaw : WideMaps.KeyLaw Try.prog 70 := deep_law_laid laidOut (m := 2) (by omega) rowSlot keyT wideSlot
theorem lawS : Keyed Try.prog 70 := Keyed.of_law klaw
theorem lawI : Keyed Try.prog 3 := int_keyed Try.underlying3
theorem ktype : Try.prog.keyType 70 = true := by kernel_rfl
theorem tsize : Try.prog.types.size = (Try.prog.types.size - 1) + 1 := of_decide_eq_true (by kernel_rfl)
theorem cellsS : Try.prog.cellsOf 70 = 2 := by kernel_rfl
theorem cellsI : Try.prog.cellsOf 3 = 1 := by kernel_rfl
theorem wf64 {x : Int} (h : i64B x) : (Lit.int .i64 x).wf = true := by
  unfold i64B at h
  simp [Lit.wf, IntKind.min, IntKind.max, IntKind.signed, IntKind.bits]
  omega
def klS (s : Int × Int) : Lit := .string (keyBytes [.int .i64 s.1, .int .i64 s.2])
def slV (s : Int × Int) : Value := .agg #[.int .i64 s.1, .int .i64 s.2]
theorem key_two {P : Program} {k e : TypeId} {fs : Array Field} (hu : P.underlying k = some (.struct fs)) (he : P.underlying e = some (.int .i64)) (hk : P.keyType k = true) (hc : P.cellsOf k = 2) (hce : P.cellsOf e = 1) (hsz : ∃ m, P.types.size = m + 1) (f1 f2 : Field) (hfs : fs = #[f1, f2]) (o1 : f1.offset = 0 ∧ f1.type = e ∧ (f1.name != "_") = true) (o2 : f2.offset = 1 ∧ f2.type = e ∧ (f2.name != "_") = true) {a b : Int} (h1 : (Lit.int .i64 a).wf = true) (h2 : (Lit.int .i64 b).wf = true) : keyOf P k (.agg #[.int .i64 a, .int .i64 b]) = some (.string (keyBytes [.int .i64 a, .int .i64 b])) := by
  obtain ⟨m, hm⟩ := hsz
  subst hfs
  unfold keyOf
  simp only [hu]
  rw [if_pos (by simp [hk, Value.formed, hu, hc]), hm]
  unfold Program.keyLits
  simp only [hu, Value.cells]
  rw [if_pos ⟨by rw [hc]; rfl, by simp [o1.2.2, o2.2.2]⟩]
  simp [o1.1, o1.2.1, o2.1, o2.2.1, hce, Program.keyLits, he, h1, h2]
theorem key_slot {s : Int × Int} (h1 : i64B s.1) (h2 : i64B s.2) : keyOf Try.prog 70 (slV s) = some (klS s) :=
  key_two Try.underlying70 Try.underlying3 ktype cellsS cellsI ⟨_, tsize⟩ _ _ rfl ⟨rfl, rfl, by decide⟩ ⟨rfl, rfl, by decide⟩ (wf64 h1) (wf64 h2)
theorem klS_inj {s t : Int × Int} (hs : i64B s.1 ∧ i64B s.2) (ht : i64B t.1 ∧ i64B t.2) (h : klS s = klS t) : s = t := by
  have h2 := key_slot ht.1 ht.2
  rw [← h] at h2
  have := lawS.inj (key_slot hs.1 hs.2) h2
  simp [slV] at this
  exact Prod.ext this.1 this.2
theorem key_int {x : Int} (h : i64B x) : keyOf Try.prog 3 (.int .i64 x) = some (.int .i64 x) := keyOf_int_mk Try.underlying3 (wf64 h)
def dS (s : Int × Int) : DataW Unit := .agg [.lit (.int .i64 s.1), .lit (.int .i64 s.2)]
theorem dS_inj {s t : Int × Int} (h : dS s = dS t) : s = t := by
  simp [dS] at h
  exact Prod.ext h.1 h.2
def slotElem (v : Value) : Option (DataW Unit × List MemPlace) :=
  match v with
  | .agg a =>
    match a.toList with
    | [.int .i64 x, .int .i64 y] => some (dS (x, y), [])
    | _ => none
  | _ => none
theorem slotElem_mk (s : Int × Int) : slotElem (slV s) = some (dS s, []) := rfl
theorem slotElem_inv {v : Value} {z : DataW Unit × List MemPlace} (h : slotElem v = some z) : ∃ s : Int × Int, v = slV s ∧ z = (dS s, []) := by
  unfold slotElem at h
  split at h
  · rename_i a
    split at h
    · rename_i x y hl
      cases h
      refine ⟨(x, y), ?_, rfl⟩
      have : a = #[.int .i64 x, .int .i64 y] := Array.ext' hl
      rw [this]
      rfl
    · cases h
  · cases h
def MpS (w : World) (b m : Nat) (f : Int × Int → Option Int) : Prop :=
  ∃ D : DataW Unit, w.ownsMap Try.prog 70 (plainElem Try.prog 3) b m D ∧ ∀ s : Int × Int, i64B s.1 → i64B s.2 → Maps.has D (klS s) = (f s).isSome ∧ ∀ x, f s = some x → D.atKey (klS s) (.lit (.int .i64 0)) = .lit (.int .i64 x)
def MpI (w : World) (b m : Nat) (f : Int → Option (Int × Int)) : Prop :=
  ∃ D : DataW Unit, w.ownsMap Try.prog 3 slotElem b m D ∧ ∀ x : Int, i64B x → Maps.has D (.int .i64 x) = (f x).isSome ∧ ∀ s, f x = some s → D.atKey (.int .i64 x) (dS z2) = dS s
def updO {α β : Type} [DecidableEq α] (f : α → Option β) (a : α) (b : β) : α → Option β := fun x => if x = a then some b else f x
theorem MpS.made (w : World) : MpS (w.alloc (.map #[] 0)) w.heap.size 0 (fun _ => none) :=
  ⟨.map [], World.ownsMap_made w _ _ _, fun s _ _ => ⟨rfl, fun x h => by cases h⟩⟩
theorem MpI.made (w : World) : MpI (w.alloc (.map #[] 0)) w.heap.size 0 (fun _ => none) :=
  ⟨.map [], World.ownsMap_made w _ _ _, fun s _ => ⟨rfl, fun x h => by cases h⟩⟩
theorem Kept.mp {a b : World} {P : Nat → Prop} {H : Type} {Pr : Program} {k : TypeId} {R : Value → Option (DataW H × List MemPlace)} {m n : Nat} {D : DataW H} (h : Kept a b P) (ho : a.ownsMap Pr k R m n D) (hp : ¬ P m) : b.ownsMap Pr k R m n D := by
  obtain ⟨es, cl, hb, r⟩ := ho
  exact ⟨es, cl, h.obj hb hp, r⟩
theorem MpS.keep {b m : Nat} {f : Int × Int → Option Int} {P : Nat → Prop} (h : MpS w b m f) (k : Kept w w' P) (hp : ¬ P b) : MpS w' b m f := by
  obtain ⟨D, h1, h2⟩ := h
  exact ⟨D, Kept.mp k h1 hp, h2⟩
theorem MpI.keep {b m : Nat} {f : Int → Option (Int × Int)} {P : Nat → Prop} (h : MpI w b m f) (k : Kept w w' P) (hp : ¬ P b) : MpI w' b m f := by
  obtain ⟨D, h1, h2⟩ := h
  exact ⟨D, Kept.mp k h1 hp, h2⟩
theorem MpS.still {b m : Nat} {f : Int × Int → Option Int} (h : MpS w b m f) (hb : Below w.heap.size w w') : MpS w' b m f := h.keep (Kept.ofBelow hb (fun _ => False)) id
theorem MpI.still {b m : Nat} {f : Int → Option (Int × Int)} (h : MpI w b m f) (hb : Below w.heap.size w w') : MpI w' b m f := h.keep (Kept.ofBelow hb (fun _ => False)) id
theorem MpS.lt {b m : Nat} {f : Int × Int → Option Int} (h : MpS w b m f) : b < w.heap.size := by obtain ⟨D, h1, _⟩ := h; exact h1.lt
theorem zeroI (w : World) : (zeroValue 3).run Try.prog w = .ok (.int .i64 0) w := by kernel_rfl
theorem zeroS (w : World) : (zeroValue 70).run Try.prog w = .ok (slV z2) w := by kernel_rfl
theorem MpS.look {b m : Nat} {f : Int × Int → Option Int} (h : MpS w b m f) {s : Int × Int} (h1 : i64B s.1) (h2 : i64B s.2) : (Instr.lookup 73 (.map (some b)) (slV s) true).run Try.prog w = .ok (.tuple #[.int .i64 ((f s).getD 0), .bool (f s).isSome]) w := by
  obtain ⟨D, hD, hf⟩ := h
  obtain ⟨hf1, hf2⟩ := hf s h1 h2
  obtain ⟨v, ps, hrun, hv⟩ := hD.look_ok lawS Try.underlying73 (zeroI w) (zd := .lit (.int .i64 0)) (zp := []) (plainElem_int Try.underlying3 (by decide)) (key_slot h1 h2)
  obtain ⟨c, rfl, hc, _⟩ := plainElem_int_inv Try.underlying3 hv
  rw [hrun, hf1]
  simp only [Prod.mk.injEq] at hc
  cases e : f s with
  | none =>
    rw [e] at hf1
    rw [atKey_of_not_has hf1] at hc
    simp at hc
    rw [hc.1]
    rfl
  | some x =>
    have := hf2 x e
    rw [this] at hc
    simp at hc
    rw [hc.1]
    rfl
theorem MpI.look {b m : Nat} {f : Int → Option (Int × Int)} (h : MpI w b m f) {x : Int} (h1 : i64B x) : (Instr.lookup 87 (.map (some b)) (.int .i64 x) true).run Try.prog w = .ok (.tuple #[slV ((f x).getD z2), .bool (f x).isSome]) w := by
  obtain ⟨D, hD, hf⟩ := h
  obtain ⟨hf1, hf2⟩ := hf x h1
  obtain ⟨v, ps, hrun, hv⟩ := hD.look_ok lawI Try.underlying87 (zeroS w) (zd := dS z2) (zp := []) (slotElem_mk z2) (key_int h1)
  obtain ⟨c, rfl, hc⟩ := slotElem_inv hv
  rw [hrun, hf1]
  simp only [Prod.mk.injEq] at hc
  cases e : f x with
  | none =>
    rw [e] at hf1
    rw [atKey_of_not_has hf1] at hc
    have := dS_inj hc.1
    rw [this]
    rfl
  | some s =>
    have := hf2 s e
    rw [this] at hc
    have := dS_inj hc.1
    rw [this]
    rfl
theorem MpS.put {b m : Nat} {f : Int × Int → Option Int} (h : MpS w b m f) (hm : m < 1000000) {s : Int × Int} (h1 : i64B s.1) (h2 : i64B s.2) {x : Int} (hx : i64B x) : ∃ w', (Instr.mapUpdate 73 (.map (some b)) (slV s) (.int .i64 x)).run Try.prog w = .ok () w' ∧ MpS w' b (m + 1) (updO f s x) ∧ Kept w w' (fun k => k = b) := by
  obtain ⟨D, hD, hf⟩ := h
  obtain ⟨w', hrun, hD', hg⟩ := hD.update lawS Try.underlying73 (by unfold maxLen; omega) (key_slot h1 h2) (plainElem_int Try.underlying3 (wf64 hx))
  refine ⟨w', hrun, ⟨_, hD', fun t t1 t2 => ?_⟩, (Kept.ofGrown hg).mono fun k _ hk => by cases hk; rfl⟩
  by_cases e : t = s
  · subst e
    rw [has_put_same hD.isMap (lawS.key (key_slot t1 t2)), atKey_put_same hD.isMap (lawS.key (key_slot t1 t2))]
    refine ⟨by simp [updO], fun y hy => ?_⟩
    simp [updO] at hy
    rw [hy]
  · have ne : klS t ≠ klS s := fun e2 => e (klS_inj ⟨t1, t2⟩ ⟨h1, h2⟩ e2)
    rw [has_put_other ne, atKey_put_other ne]
    simp only [updO, if_neg e]
    exact hf t t1 t2
theorem MpI.put {b m : Nat} {f : Int → Option (Int × Int)} (h : MpI w b m f) (hm : m < 1000000) {x : Int} (h1 : i64B x) (s : Int × Int) : ∃ w', (Instr.mapUpdate 87 (.map (some b)) (.int .i64 x) (slV s)).run Try.prog w = .ok () w' ∧ MpI w' b (m + 1) (updO f x s) ∧ Kept w w' (fun k => k = b) := by
  obtain ⟨D, hD, hf⟩ := h
  obtain ⟨w', hrun, hD', hg⟩ := hD.update lawI Try.underlying87 (by unfold maxLen; omega) (key_int h1) (slotElem_mk s)
  refine ⟨w', hrun, ⟨_, hD', fun t t1 => ?_⟩, (Kept.ofGrown hg).mono fun k _ hk => by cases hk; rfl⟩
  by_cases e : t = x
  · subst e
    rw [has_put_same hD.isMap (lawI.key (key_int t1)), atKey_put_same hD.isMap (lawI.key (key_int t1))]
    refine ⟨by simp [updO], fun y hy => ?_⟩
    simp [updO] at hy
    rw [hy]
  · have ne : (Lit.int .i64 t) ≠ Lit.int .i64 x := fun e2 => e (by cases e2; rfl)
    rw [has_put_other ne, atKey_put_other ne]
    simp only [updO, if_neg e]
    exact hf t t1
end
end Go.Proofs.Ytihcaopcfhbofaa.Fm
