import Derived.Test.YtpgckdbjedepcaaDoorMhb
namespace Go.Proofs.YtpgckdbjedepcaaDoor.Mh
open Go.RowKit Mb Go.Maps
set_option linter.unusedVariables false
set_option maxRecDepth 100000
set_option linter.unusedSimpArgs false
section
variable {w w' W : World} {B : Nat}
def dv (k s : ByteArray) : DataW Unit := .agg [.lit (.string k.data.toList), .lit (.string s.data.toList)]
def prL : List Value → Option (DataW Unit × List MemPlace)
  | [.string k, .string s] => some (dv k s, [])
  | _ => none
def prE : Value → Option (DataW Unit × List MemPlace)
  | .agg cs => prL cs.toList
  | _ => none
theorem prE_mk (k s : ByteArray) : prE (.agg #[.string k, .string s]) = some (dv k s, []) := rfl
theorem ba_ext {s t : ByteArray} (h : s.data.toList = t.data.toList) : s = t := by
  apply ByteArray.ext
  exact Array.toList_inj.1 h
theorem prE_inv {v : Value} {k s : ByteArray} {ps : List MemPlace} (h : prE v = some (dv k s, ps)) : v = .agg #[.string k, .string s] := by
  unfold prE at h
  split at h
  · rename_i cs
    unfold prL at h
    split at h
    · rename_i k' t he
      simp only [dv, Option.some.injEq, Prod.mk.injEq, DataW.agg.injEq, List.cons.injEq, DataW.lit.injEq, Lit.string.injEq, and_true] at h
      rw [← ba_ext h.1.1, ← ba_ext h.1.2]
      congr 1
      rw [← Array.toList_inj, he]
    · cases h
  · cases h
def lead : ByteArray := { data := #[108, 101, 97, 100] }
def emp : ByteArray := { data := #[] }
def kl : Lit := .string [108, 101, 97, 100]
def mp (s : ByteArray) : DataW Unit := .map [(kl, dv lead s)]
theorem same_kl : kl.sameKey kl = true := by decide
theorem put0 (s : ByteArray) : (DataW.map [] : DataW Unit).put kl (dv lead s) = mp s := by rfl
theorem put1 (s t : ByteArray) : (mp s).put kl (dv lead t) = mp t := by
  simp [mp, DataW.put, same_kl, DataW.insert]
theorem at1 (s : ByteArray) (z : DataW Unit) : (mp s).atKey kl z = dv lead s := by
  simp [mp, DataW.atKey, same_kl]
theorem has0 : Maps.has (DataW.map [] : DataW Unit) kl = false := rfl
theorem has1 (s : ByteArray) : Maps.has (mp s) kl = true := by
  simp [mp, Maps.has, same_kl]
theorem law : Keyed Tryd.prog 9 := string_keyed Tryd.underlying9
theorem key_lead : keyOf Tryd.prog 9 (.string lead) = some kl := Go.WideMaps.keyOf_string_mk Tryd.underlying9 (by unfold maxLen; decide)
def pz : Value := .agg #[.string emp, .string emp]
theorem zeroP (w : World) : (zeroValue 45).run Tryd.prog w = .ok pz w := by kernel_rfl
theorem Om_below {R : Value → Option (DataW Unit × List MemPlace)} {k b n : Nat} {D : DataW Unit} (h : w.ownsMap Tryd.prog k R b n D) (hb : Below w.heap.size w w') : w'.ownsMap Tryd.prog k R b n D := by
  obtain ⟨es, cl, h1, h2, h3, h4⟩ := h
  exact ⟨es, cl, (hb.block _ (lt_heap h1)).trans h1, h2, h3, h4⟩
theorem Om_keep {P : Nat → Prop} {R : Value → Option (DataW Unit × List MemPlace)} {k b n : Nat} {D : DataW Unit} (h : w.ownsMap Tryd.prog k R b n D) (kp : Kept w w' P) (hp : ¬ P b) : w'.ownsMap Tryd.prog k R b n D := by
  obtain ⟨es, cl, h1, h2, h3, h4⟩ := h
  exact ⟨es, cl, kp.obj h1 hp, h2, h3, h4⟩
theorem look0 {b n : Nat} (h : w.ownsMap Tryd.prog 9 prE b n (.map [])) : (Instr.lookup 34 (.map (some b)) (.string lead) true).run Tryd.prog w = .ok (.tuple #[.agg #[.string emp, .string emp], .bool false]) w := by
  obtain ⟨v, ps, hr, hv⟩ := h.look_ok (t := 34) law Tryd.underlying34 (zeroP w) (prE_mk emp emp) key_lead
  rw [has0] at hr
  rw [prE_inv (k := emp) (s := emp) hv] at hr
  exact hr
theorem look1 {b n : Nat} {s : ByteArray} (h : w.ownsMap Tryd.prog 9 prE b n (mp s)) : (Instr.lookup 34 (.map (some b)) (.string lead) true).run Tryd.prog w = .ok (.tuple #[.agg #[.string lead, .string s], .bool true]) w := by
  obtain ⟨v, ps, hr, hv⟩ := h.look_ok (t := 34) law Tryd.underlying34 (zeroP w) (prE_mk emp emp) key_lead
  rw [has1] at hr
  rw [at1] at hv
  rw [prE_inv hv] at hr
  exact hr
end
end Go.Proofs.YtpgckdbjedepcaaDoor.Mh
