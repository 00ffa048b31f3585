import Derived.Test.YtbdefhagpgpoiaaBm
import Derived.Test.YtbdefhagpgpoiaaBb
namespace Go.Proofs.Ytbdefhagpgpoiaa.Mb
open Go.RowKit
set_option linter.unusedVariables false
set_option maxRecDepth 100000
set_option linter.unusedSimpArgs false
section
variable {A A' : Ag} {w w' W : World} {B : Nat} {T : Int}
structure Opx where
  kind : Int
  q : Int
  inc : Int
  sa : Option Addr
  sn : Nat
  sc : Nat
  ss : List Int
  p : Pq
def Opx.cs (o : Opx) : Array Value := #[.int .i64 o.kind, .int .i64 o.q, .int .i64 o.inc, .slice o.sa o.sn o.sc, .slice o.p.sa o.p.sn o.p.sc, .int .i64 o.p.cid, .int .i64 o.p.rev, .int .i64 o.p.top, .int .i64 (o.p.prev.getD 0 0), .int .i64 (o.p.prev.getD 1 0), .int .i64 (o.p.prev.getD 2 0), .int .i64 (o.p.prev.getD 3 0), .slice o.p.va o.p.vn o.p.vc]
structure Opx.Rd (o : Opx) (w : World) : Prop where
  s : RdI w o.sa o.sn o.ss
  sn : o.sn ≤ 17592186044416
  p : o.p.Rd w
theorem Opx.Rd.still {o : Opx} (h : o.Rd w) (hb : Below w.heap.size w w') : o.Rd w' := { h with s := h.s.still hb, p := h.p.still hb }
inductive Stp (A : Ag) (o : Opx) : Int → Ag → Prop
  | est : o.kind = 1 → Stp A o (A.estE o.ss) (A.estA o.ss)
  | tak : o.kind = 2 → Stp A o (A.takE o.q o.inc o.p) (A.takA o.q o.inc o.p)
  | ins (g c : Nat) : o.kind = 5 → A.agr = true → Stp A o 0 (A.inst g c)
  | apart : o.kind = 5 → A.agr = false → Stp A o 61 A
  | none : o.kind ≠ 1 → o.kind ≠ 2 → o.kind ≠ 5 → Stp A o 0 A
theorem op_range {o : Opx} {k : Nat} (h : w.heap[k]? = some (.cells o.cs 44 (0, 0))) : w.rangeAt k 4 o.p.cs.toList := fun j v hv => by
  rw [blk_cell h]
  match j, hv with
  | 0, hv => exact hv
  | 1, hv => exact hv
  | 2, hv => exact hv
  | 3, hv => exact hv
  | 4, hv => exact hv
  | 5, hv => exact hv
  | 6, hv => exact hv
  | 7, hv => exact hv
  | 8, hv => exact hv
  | j + 9, hv => cases hv
set_option maxHeartbeats 2000000 in
theorem call_any (h : A.Ok w B 4611686018427387903) (hs : A.own.set.getD A.self 0 ≠ 0) (o : Opx) (hr : o.Rd w) : Calls Try.prog 18 #[.pointer (some ⟨A.b, 0, none⟩), .agg o.cs] w fun e w' => ∃ E A', e = .returned (.int .i64 E) ∧ A'.Ok w' B 4611686018427387903 ∧ Kept w w' (fun j => j = A.b) ∧ Stp A o E A' := by
  generalize hW1 : w.alloc (.cells o.cs 44) = W1
  have b1 : Below w.heap.size w W1 := hW1 ▸ balloc (Below.refl _ _)
  have k1 : W1.heap[w.heap.size]? = some (.cells o.cs 44 (0, 0)) := by rw [← hW1]; exact heap_alloc_new w _
  have c0 : W1.cell? ⟨w.heap.size, 0, none⟩ = some (.int .i64 o.kind) := blk_cell k1 0
  have c1 : W1.cell? ⟨w.heap.size, 1, none⟩ = some (.int .i64 o.q) := blk_cell k1 1
  have c2 : W1.cell? ⟨w.heap.size, 2, none⟩ = some (.int .i64 o.inc) := blk_cell k1 2
  have c3 : W1.cell? ⟨w.heap.size, 3, none⟩ = some (.slice o.sa o.sn o.sc) := blk_cell k1 3
  have R4 : Hid (W1.rangeAt w.heap.size 4 o.p.cs.toList) := op_range k1
  have HA : Hid (A.Ok W1 B 4611686018427387903) := h.still b1
  have HR : Hid (o.Rd W1) := hr.still b1
  have HB : Hid (Below w.heap.size w W1) := b1
  have Hs : Hid (A.own.set.getD A.self 0 ≠ 0) := hs
  obtain ⟨kd, hkd⟩ : ∃ kd, o.kind = kd := ⟨_, rfl⟩
  have Hkd : Hid (o.kind = kd) := hkd
  rw [hkd] at c0
  generalize o.cs = oc at *
  clear h hr b1 k1 hkd hs
  by_cases e1 : kd = 1
  · subst e1
    have HE : Hid (Calls Try.prog 23 #[.pointer (some ⟨A.b, 0, none⟩), .slice o.sa o.sn o.sc] W1 fun e w' => e = .returned (.tuple #[.bool (A.estB o.ss), .int .i64 (A.estE o.ss)]) ∧ (A.estA o.ss).Ok w' B 4611686018427387903 ∧ Kept W1 w' (fun j => j = A.b)) := est_any HA.out (by omega) HR.out.s HR.out.sn
    go_enter Try.func18, Try.ntmps18
    go_wp2_with (first | (go_at_call 23; refine HE.out.mono ?_; rintro e w2 ⟨rfl, hO, hK⟩) | fail)
    go_ret
    exact ⟨_, _, rfl, hO, (Kept.ofBelow HB.out _).trans hK, .est Hkd.out⟩
  by_cases e2 : kd = 2
  · subst e2
    have HE : Hid (Calls Try.prog 22 #[.pointer (some ⟨A.b, 0, none⟩), .int .i64 o.q, .int .i64 o.inc, .agg o.p.cs] W1 fun e w' => e = .returned (.tuple #[.bool (A.takB o.q o.inc o.p), .int .i64 (A.takE o.q o.inc o.p)]) ∧ (A.takA o.q o.inc o.p).Ok w' B 4611686018427387903 ∧ Kept W1 w' (fun j => j = A.b)) := take_any HA.out (by omega) o.q o.inc o.p HR.out.p
    go_enter Try.func18, Try.ntmps18
    go_wp2_with (first
      | (go_at_call 22; refine HE.out.mono ?_; rintro e w2 ⟨rfl, hO, hK⟩)
      | (refine load_mid 41 (.tmp 25) R4.out _ Try.underlying41 rfl (by kernel_rfl) rfl rfl rfl ?_)
      | fail)
    go_ret
    exact ⟨_, _, rfl, hO, (Kept.ofBelow HB.out _).trans hK, .tak Hkd.out⟩
  by_cases e5 : kd = 5
  · subst e5
    cases hg : A.agr with
    | true =>
      have HE := install_yes HA.out Hs.out hg
      have Hg : Hid (A.agr = true) := hg
      clear hg
      go_enter Try.func18, Try.ntmps18
      go_wp2_with (first | (go_at_call 10; refine HE.mono ?_; rintro e w2 ⟨g, c, g', c', v, rfl, hO, _, _, _, _, _, hK⟩) | fail)
      go_ret
      exact ⟨_, _, rfl, hO, (Kept.ofBelow HB.out _).trans hK, .ins g c Hkd.out Hg.out⟩
    | false =>
      have HE := install_no HA.out hg
      have Hg : Hid (A.agr = false) := hg
      clear hg
      go_enter Try.func18, Try.ntmps18
      go_wp2_with (first | (go_at_call 10; refine HE.mono ?_; rintro e w2 ⟨rfl, hb2⟩) | fail)
      go_ret
      exact ⟨_, _, rfl, HA.out.still hb2, Kept.ofBelow (bstep HB.out hb2) _, .apart Hkd.out Hg.out⟩
  · have f1 : (kd == 1) = false := by simpa using e1
    have f2 : (kd == 2) = false := by simpa using e2
    have f5 : (kd == 5) = false := by simpa using e5
    have E1 : Hid (o.kind ≠ 1 ∧ o.kind ≠ 2 ∧ o.kind ≠ 5) := by show _ ∧ _ ∧ _; rw [Hkd.out]; exact ⟨e1, e2, e5⟩
    go_enter Try.func18, Try.ntmps18
    go_wp2
    go_ret
    exact ⟨_, _, rfl, HA.out, Kept.ofBelow HB.out _, .none E1.out.1 E1.out.2.1 E1.out.2.2⟩
end
end Go.Proofs.Ytbdefhagpgpoiaa.Mb
