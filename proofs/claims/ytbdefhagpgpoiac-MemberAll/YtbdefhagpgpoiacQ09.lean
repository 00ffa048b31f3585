import Derived.Test.YtbdefhagpgpoiacQ00
import Derived.Test.YtbdefhagpgpoiacQ07
import Derived.Test.YtbdefhagpgpoiacQ08
namespace Go.Proofs.Ytbdefhagpgpoiac.Mb
open Go.RowKit
set_option linter.unusedVariables false
set_option maxRecDepth 100000
set_option linter.unusedSimpArgs false
section
variable {A A' : Ag} {w w' W : World} {B : Nat} {T : Int}
structure Pq where
  sa : Option Addr
  sn : Nat
  sc : Nat
  ss : List Int
  cid : Int
  rev : Int
  top : Int
  prev : List Int
  va : Option Addr
  vn : Nat
  vc : Nat
  vs : List Int
def Pq.cs (p : Pq) : Array Value := #[.slice p.sa p.sn p.sc, .int .i64 p.cid, .int .i64 p.rev, .int .i64 p.top, .int .i64 (p.prev.getD 0 0), .int .i64 (p.prev.getD 1 0), .int .i64 (p.prev.getD 2 0), .int .i64 (p.prev.getD 3 0), .slice p.va p.vn p.vc]
structure Pq.Rd (p : Pq) (w : World) : Prop where
  s : RdI w p.sa p.sn p.ss
  v : RdI w p.va p.vn p.vs
  l : p.prev.length = 4
  sn : p.sn ≤ 17592186044416
  vn : p.vn ≤ 17592186044416
theorem Pq.Rd.still {p : Pq} (h : p.Rd w) (hb : Below w.heap.size w w') : p.Rd w' := { h with s := h.s.still hb, v := h.v.still hb }
def Pq.pp (p : Pq) : Pp := ⟨pad p.ss, p.cid, p.rev, p.top, p.prev, pad p.vs⟩
def Pq.valid (p : Pq) (q : Nat) (inc : Int) (n : Nat) : Bool := okL p.ss n && okL p.vs n && ((pad p.ss).getD q 0 == inc) && ((pad p.vs).getD q 0 == p.cid) && honly (pad p.vs) (pad p.ss) && wB p.cid 1 4611686018427387904 && wB p.rev 1 4611686018427387904 && wB p.top 0 4611686018427387903 && prevOk p.prev n
theorem rng_below {b o : Nat} {cs : List Value} (h : w.rangeAt b o cs) (hb : Below w.heap.size w w') : w'.rangeAt b o cs := fun j v hv => below_at hb (h j v hv)
theorem build_prop_step {ops : Array Oper} {rest : List Oper} {o : Oper} {a : Act} {Q : Exit → Act → World → Prop} (p : Pp) (hp : p.L) (x0 x1 x2 x3 x4 x5 : Operand) (hg : o.guard = none) (ho : o.op = .build 47 #[(0, x0), (1, x1), (2, x2), (3, x3), (4, x4), (5, x5)])
    (h0 : a.eval x0 = .agg (ints p.set).toArray) (h1 : a.eval x1 = .int .i64 p.cid) (h2 : a.eval x2 = .int .i64 p.rev) (h3 : a.eval x3 = .int .i64 p.top) (h4 : a.eval x4 = .agg (ints p.prev).toArray) (h5 : a.eval x5 = .agg (ints p.vec).toArray)
    (h : wpList Try.prog ops Q rest (a.put o.dst (.agg (ints p.fl).toArray)) w) : wpList Try.prog ops Q (o :: rest) a w := by
  have e : (((#[(0, x0), (1, x1), (2, x2), (3, x3), (4, x4), (5, x5)] : Array (Nat × Operand)).map fun (i, x) => (i, a.eval x)).toList) = [(0, .agg (ints p.set).toArray), (1, .int .i64 p.cid), (2, .int .i64 p.rev), (3, .int .i64 p.top), (4, .agg (ints p.prev).toArray), (5, .agg (ints p.vec).toArray)] := by
    simp [h0, h1, h2, h3, h4, h5]
  refine wpList_build hg 47 _ ho (by rw [e, built_prop p hp]; rfl) ?_
  rw [e, built_prop p hp]
  exact h
theorem prev_range {p : Pq} {k : Nat} (h : w.heap[k]? = some (.cells p.cs 40 (0, 0))) (hl : p.prev.length = 4) : w.rangeAt k 4 (ints p.prev) := fun j v hv => by
  rw [blk_cell h]
  have hj : j < p.prev.length := by have := (List.getElem?_eq_some_iff.1 hv).1; rwa [ints_len] at this
  rw [ints_at _ _ hj] at hv
  cases hv
  match j, hj with
  | 0, _ => rfl
  | 1, _ => rfl
  | 2, _ => rfl
  | 3, _ => rfl
  | j + 4, hj => omega
def Pq.SA (p : Pq) (q : Nat) (inc : Int) (n : Nat) : Bool := okL p.ss n && okL p.vs n && ((pad p.ss).getD q 0 == inc)
def Pq.SB (p : Pq) (q : Nat) : Bool := ((pad p.vs).getD q 0 == p.cid) && honly (pad p.vs) (pad p.ss) && wB p.cid 1 4611686018427387904 && wB p.rev 1 4611686018427387904
end
end Go.Proofs.Ytbdefhagpgpoiac.Mb
