import Derived.Test.YtbjpbcanmpimnabPk2
namespace Go.Proofs.Ytbjpbcanmpimnab.Lo
open Go.RowKit Bk
set_option linter.unusedVariables false
set_option linter.unusedSimpArgs false

structure Bl (w w' : World) (k : Nat) (cs : Array Value) : Prop where
  c : w'.heap[k]? = some (.cells cs 72 (0, 0))
  b : Below w.heap.size w w'
  g : w.heap.size ≤ k
theorem Bl.new (w : World) (cs : Array Value) : Bl w (w.alloc (.cells cs 72)) w.heap.size cs := ⟨heap_alloc_new w _, balloc (Below.refl _ _), Nat.le_refl _⟩
theorem Bl.set {w w' : World} {k : Nat} {cs : Array Value} (h : Bl w w' k cs) (i : Nat) (v : Value) : Bl w (w'.setCell ⟨k, i, none⟩ v) k (cs.setIfInBounds i v) := ⟨heap_setCell_same w' k i cs 72 v h.c, bset h.b h.g i v, h.g⟩
theorem Bl.still {w w' w'' : World} {k : Nat} {cs : Array Value} (h : Bl w w' k cs) (hb : Below w'.heap.size w' w'') : Bl w w'' k cs := ⟨(hb.block k (lt_heap h.c)).trans h.c, bstep h.b hb, h.g⟩
theorem Bl.fz {w w' : World} {k : Nat} {cs : Array Value} (h : Bl w w' k cs) (i : Nat) : w'.frozen? ⟨k, i, none⟩ = false := frozen_of_row w' k i cs 72 h.c
theorem Bl.at {w w' : World} {k : Nat} {cs : Array Value} {v : Value} (h : Bl w w' k cs) (i : Nat) (hv : cs[i]? = some v) : w'.cell? ⟨k, i, none⟩ = some v := (blk_cell h.c i).trans hv

def ackZ (e l i c u : Int) : Bool := noneB e l i c && u == 0
def othersB (P : Pk) : Bool := (P.k == 1 || beatZ P.bt P.hN) && (P.k == 2 || proposeZ P.psN P.pd P.pr P.pt P.pe P.pl P.pi P.pc P.pvN) && (P.k == 3 || flushZ P.fe P.fl P.fi P.fc P.fb P.fsN P.fhN) && (P.k == 4 || stableZ P.se P.sl P.si2 P.sc P.sd P.sp) && (P.k == 5 || frameZ P.te P.tl P.ti P.tc P.ts P.tbN) && (P.k == 6 || ackZ P.ae P.al P.ai P.ac P.au) && (P.k == 7 || forwardZ P.we P.wl P.wi P.wc P.wmN)

end Go.Proofs.Ytbjpbcanmpimnab.Lo
