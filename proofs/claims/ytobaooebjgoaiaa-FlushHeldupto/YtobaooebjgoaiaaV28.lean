import Derived.Test.YtobaooebjgoaiaaV25
import Derived.Test.YtobaooebjgoaiaaV26
import Derived.Test.YtobaooebjgoaiaaV24
import Derived.Test.YtobaooebjgoaiaaV27
import Derived.Test.YtobaooebjgoaiaaV18
namespace Go.Proofs.Ytobaooebjgoaiaa.Fm
open Go.RowKit Go.Maps Mb
set_option linter.unusedVariables false
set_option maxRecDepth 100000
set_option linter.unusedSimpArgs false
section
variable {w w' W : World} {B : Nat}
theorem num_any (x : Int) : Calls Try.prog 18 #[.int .i64 x] w fun e w' => e = .returned (.int .i64 x) ∧ w' = w := by
 go_enter Try.func18, Try.ntmps18
 go_wp2
 go_ret
 exact ⟨rfl, rfl⟩
end
end Go.Proofs.Ytobaooebjgoaiaa.Fm
namespace Go.Proofs.Ytobaooebjgoaiaa.Fm
open Go.RowKit Go.Maps Mb
set_option linter.unusedVariables false
set_option maxRecDepth 100000
set_option linter.unusedSimpArgs false
section
variable {w w' W : World} {B : Nat}
structure Ca where
 ao : Option Addr
 cp : Nat
 fs : List Fl
 own : Fl
 d : Int
 wa : Option Addr
 wn : Nat
 wc : Nat
 self : Int
 q : Int
 ma : Option Addr
 mn : Nat
 mc : Nat
def Ca.cs (k : Ca) : List Value := [.slice k.ao k.fs.length k.cp, .int .i64 k.own.c.id.e, .int .i64 k.own.c.id.l, .int .i64 k.own.c.id.i, .int .i64 k.own.c.id.c, .int .i64 k.own.c.base, .slice k.own.sa k.own.c.sl.length k.own.sc, .slice k.own.ha k.own.c.hv.length k.own.hc, .int .i64 k.d, .slice k.wa k.wn k.wc, .int .i64 k.self, .int .i64 k.q, .slice k.ma k.mn k.mc]
theorem Ca.own_at {k : Ca} {b : Nat} (h : w.heap[b]? = some (.cells k.cs.toArray 31 (0, 0))) : w.rangeAt b 1 k.own.cs := fun j v hv => by
 rw [blk_cell h]
 have hj : j < 7 := (List.getElem?_eq_some_iff.1 hv).1
 match j, hj, hv with
 | 0, _, hv => exact hv
 | 1, _, hv => exact hv
 | 2, _, hv => exact hv
 | 3, _, hv => exact hv
 | 4, _, hv => exact hv
 | 5, _, hv => exact hv
 | 6, _, hv => exact hv
theorem tw_pre {x : Fl} {g : Nat} (hg : w.heap[g]? = some (.cells x.tw.toArray 53 (0, 0))) : w.rangeAt g 0 x.cs := fun j v hv => blk_range hg j v (by
 have hj : j < 7 := (List.getElem?_eq_some_iff.1 hv).1
 unfold Fl.tw
 rw [List.getElem?_append_left (by rw [Fl.cs_len]; exact hj)]
 exact hv)
theorem wl_buildZ {ops : Array Oper} {rest : List Oper} {o : Oper} {a : Act} {Q : Exit → Act → World → Prop} {cs : Array Value} (hgd : o.guard = none) (t : TypeId) (parts : Array (Nat × Operand)) (ho : o.op = .build t parts) (hf : Try.prog.built t (parts.map fun (i, x) => (i, a.eval x)).toList = some cs)
  (h : wpList Try.prog ops Q rest (a.put o.dst (.agg cs)) w) : wpList Try.prog ops Q (o :: rest) a w :=
 wpList_build hgd t parts ho (by rw [hf]; rfl) (by rw [hf]; exact h)
theorem built_eq {t : TypeId} {l l' : List (Nat × Value)} {c : Array Value} (e : l = l') (h : Try.prog.built t l' = some c) : Try.prog.built t l = some c := e ▸ h
structure Lw (w0 w : World) (cb vb : Nat) (k : Ca) (ta ia : Option Addr) (xs : List Fl) (x : Fl) : Prop where
 c : w.heap[cb]? = some (.cells k.cs.toArray 31 (0, 0))
 v : w.heap[vb]? = some (.cells x.tw.toArray 53 (0, 0))
 t : Tws w w0.heap.size ta ia xs k.fs
 x : TwOk w w0.heap.size x k.own.c
 r : RdFs w k.ao k.fs
 o : k.own.Rd w
 b : Below w0.heap.size w0 w
theorem Lw.still {w0 : World} {cb vb : Nat} {k : Ca} {ta ia : Option Addr} {xs : List Fl} {x : Fl} (h : Lw w0 w cb vb k ta ia xs x) (hb : Below w.heap.size w w') : Lw w0 w' cb vb k ta ia xs x :=
 ⟨blk_on hb h.c, blk_on hb h.v, h.t.still hb, h.x.still hb, h.r.still hb, h.o.still hb, bstep h.b hb⟩
end
end Go.Proofs.Ytobaooebjgoaiaa.Fm
