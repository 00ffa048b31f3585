import Derived.Test.YtbdefhagpgpoiacQ00
import Derived.Test.YtbdefhagpgpoiacQ34
namespace Go.Proofs.Ytbdefhagpgpoiac.Mb
open Go.RowKit
set_option linter.unusedVariables false
set_option maxRecDepth 100000
set_option linter.unusedSimpArgs false
section
variable {A A' : Ag} {w w' W : World} {B : Nat} {T : Int} {R R' : Rg}
structure Nw (R : Rg) (xs : List Int) (P : Pq) : Prop where
  ss : P.ss = xs
  vs : P.vs = rvecN R xs (R.own.cid + 1) R.n
  cid : P.cid = R.own.cid + 1
  rev : P.rev = R.own.rev + 1
  top : P.top = if R.k = 0 then R.own.top else R.id.getD 0 0
  prev : P.prev = if R.k = 0 then R.own.prev else R.id
  sn : P.sn = R.n
  vn : P.vn = R.n
theorem rbegin_any (h : R.Ok w B) (hL : R.all.length ≤ 1000000000000) {ao : Option Addr} {c : Nat} {xs : List Int} (hr : RdI w ao R.n xs) (hc : 0 ≤ R.own.cid ∧ R.own.cid < 4611686018427387904) (hv : 0 ≤ R.own.rev ∧ R.own.rev < 4611686018427387904) (he : 0 ≤ R.id.getD 0 0 ∧ R.id.getD 0 0 < 4611686018427387904) : Calls Try.prog 36 #[.pointer (some ⟨R.b, 0, none⟩), .slice ao R.n c] w fun e w' => ∃ P : Pq, e = .returned (.tuple #[.agg [.slice P.sa P.sn P.sc, .int .i64 P.cid, .int .i64 P.rev, .int .i64 P.top, .int .i64 (P.prev[0]?.getD 0), .int .i64 (P.prev[1]?.getD 0), .int .i64 (P.prev[2]?.getD 0), .int .i64 (P.prev[3]?.getD 0), .slice P.va P.vn P.vc].toArray, .bool true]) ∧ Nw R xs P ∧ RowI w' w.heap.size P.sa P.sn P.sc P.ss ∧ RowI w' w.heap.size P.va P.vn P.vc P.vs ∧ Below w.heap.size w w' := by
  by_cases hk : R.k = 0
  · refine (rbegin_yes0 (c := c) h hL hr hc hv he hk).mono ?_
    rintro e w2 ⟨a1, q1, a2, q2, rfl, o1, o2, hb⟩
    exact ⟨⟨a1, R.n, q1, xs, R.own.cid + 1, R.own.rev + 1, R.own.top, R.own.prev, a2, R.n, q2, rvecN R xs (R.own.cid + 1) R.n⟩, rfl, ⟨rfl, rfl, rfl, rfl, (by rw [if_pos hk]), (by rw [if_pos hk]), rfl, rfl⟩, o1, o2, hb⟩
  · refine (rbegin_yes1 (c := c) h hL hr hc hv he (by omega)).mono ?_
    rintro e w2 ⟨a1, q1, a2, q2, rfl, o1, o2, hb⟩
    exact ⟨⟨a1, R.n, q1, xs, R.own.cid + 1, R.own.rev + 1, R.id.getD 0 0, R.id, a2, R.n, q2, rvecN R xs (R.own.cid + 1) R.n⟩, rfl, ⟨rfl, rfl, rfl, rfl, (by rw [if_neg hk]), (by rw [if_neg hk]), rfl, rfl⟩, o1, o2, hb⟩
inductive REst (R : Rg) (xs : List Int) : Bool → Int → Rg → Prop
  | set : (okL xs R.n = false ∨ xs.getD R.self 0 ≠ R.inc) → REst R xs false 60 R
  | same : okL xs R.n = true → xs.getD R.self 0 = R.inc → xs = R.own.ss → REst R xs false 0 R
  | spent : okL xs R.n = true → xs.getD R.self 0 = R.inc → xs ≠ R.own.ss → R.spent → REst R xs false 3 R
  | ok (P : Pq) : okL xs R.n = true → xs.getD R.self 0 = R.inc → xs ≠ R.own.ss → ¬ R.spent → Nw R xs P → REst R xs true 0 { R with own := P, op := true }
structure Rg.Bd (R : Rg) : Prop where
  cid : 0 ≤ R.own.cid ∧ R.own.cid ≤ 4611686018427387904
  rev : 0 ≤ R.own.rev ∧ R.own.rev ≤ 4611686018427387904
  ep : 0 ≤ R.id.getD 0 0 ∧ R.id.getD 0 0 ≤ 4611686018427387904
theorem Rg.Ok.set_own (h : R.Ok w B) {k : Nat} (P : Pq) {w1 : World} {xs : List Int} (hb : Below w.heap.size w w1) (hN : Nw R xs P) (hx : xs.length = R.n) (o1 : RowI w1 w.heap.size P.sa P.sn P.sc P.ss) (o2 : RowI w1 w.heap.size P.va P.vn P.vc P.vs) : ({ R with own := P, op := true } : Rg).Ok ((w1.setCells R.b 9 [.slice P.sa P.sn P.sc, .int .i64 P.cid, .int .i64 P.rev, .int .i64 P.top, .int .i64 (P.prev[0]?.getD 0), .int .i64 (P.prev[1]?.getD 0), .int .i64 (P.prev[2]?.getD 0), .int .i64 (P.prev[3]?.getD 0), .slice P.va P.vn P.vc]).setCell ⟨R.b, 8, none⟩ (.bool true)) B ∧ Kept w1 ((w1.setCells R.b 9 [.slice P.sa P.sn P.sc, .int .i64 P.cid, .int .i64 P.rev, .int .i64 P.top, .int .i64 (P.prev[0]?.getD 0), .int .i64 (P.prev[1]?.getD 0), .int .i64 (P.prev[2]?.getD 0), .int .i64 (P.prev[3]?.getD 0), .slice P.va P.vn P.vc]).setCell ⟨R.b, 8, none⟩ (.bool true)) (fun j => j = R.b) := by
  have h1 := h.still hb
  have hbB : B ≤ w.heap.size := Nat.le_of_lt (Nat.lt_of_le_of_lt h.ge (lt_heap h.blk))
  have m1 : (w1.setCells R.b 9 [.slice P.sa P.sn P.sc, .int .i64 P.cid, .int .i64 P.rev, .int .i64 P.top, .int .i64 (P.prev[0]?.getD 0), .int .i64 (P.prev[1]?.getD 0), .int .i64 (P.prev[2]?.getD 0), .int .i64 (P.prev[3]?.getD 0), .slice P.va P.vn P.vc]).heap[R.b]? = some (.cells ({ R with own := P } : Rg).cs.toArray 57 (0, 0)) := sets_list [.slice P.sa P.sn P.sc, .int .i64 P.cid, .int .i64 P.rev, .int .i64 P.top, .int .i64 (P.prev[0]?.getD 0), .int .i64 (P.prev[1]?.getD 0), .int .i64 (P.prev[2]?.getD 0), .int .i64 (P.prev[3]?.getD 0), .slice P.va P.vn P.vc] 9 w1 R.cs h1.blk (by simp [Rg.cs])
  have m2 : ((w1.setCells R.b 9 [.slice P.sa P.sn P.sc, .int .i64 P.cid, .int .i64 P.rev, .int .i64 P.top, .int .i64 (P.prev[0]?.getD 0), .int .i64 (P.prev[1]?.getD 0), .int .i64 (P.prev[2]?.getD 0), .int .i64 (P.prev[3]?.getD 0), .slice P.va P.vn P.vc]).setCell ⟨R.b, 8, none⟩ (.bool true)).heap[R.b]? = some (.cells ({ R with own := P, op := true } : Rg).cs.toArray 57 (0, 0)) := blk_set m1 rfl
  have kk : Kept w1 ((w1.setCells R.b 9 [.slice P.sa P.sn P.sc, .int .i64 P.cid, .int .i64 P.rev, .int .i64 P.top, .int .i64 (P.prev[0]?.getD 0), .int .i64 (P.prev[1]?.getD 0), .int .i64 (P.prev[2]?.getD 0), .int .i64 (P.prev[3]?.getD 0), .slice P.va P.vn P.vc]).setCell ⟨R.b, 8, none⟩ (.bool true)) (fun j => j = R.b) := (ksets (P := fun j => j = R.b) (b := R.b) rfl [.slice P.sa P.sn P.sc, .int .i64 P.cid, .int .i64 P.rev, .int .i64 P.top, .int .i64 (P.prev[0]?.getD 0), .int .i64 (P.prev[1]?.getD 0), .int .i64 (P.prev[2]?.getD 0), .int .i64 (P.prev[3]?.getD 0), .slice P.va P.vn P.vc] 9 w1).trans (kset (P := fun j => j = R.b) _ _ _ _ rfl)
  refine ⟨{ h1 with blk := m2, pl := ?_, mem := kk.owns h1.mem (own_ne h1.mem h1.blk (by decide)), os := own_lower (kk.owns o1 (own_ne o1 h1.blk (by decide))) hbB, ov := own_lower (kk.owns o2 (own_ne o2 h1.blk (by decide))) hbB, sl := (by show P.ss.length = R.n; rw [hN.ss]; exact hx), vl := (by show P.vs.length = R.n; rw [hN.vs]; exact rvecN_len _ _ _ _), row := kk.owns h1.row (own_ne h1.row h1.blk (by decide)), el := fun x hx' => ⟨kk.owns (h1.el x hx').1 (own_ne (h1.el x hx').1 h1.blk (by decide)), kk.owns (h1.el x hx').2.1 (own_ne (h1.el x hx').2.1 h1.blk (by decide)), (h1.el x hx').2.2⟩ }, kk⟩
  show P.prev.length = 4
  rw [hN.prev]
  split
  · exact h.pl
  · exact h.il
end
end Go.Proofs.Ytbdefhagpgpoiac.Mb
