import Derived.Test.YtbjpbcanmpimnabKc
import Derived.BigQuiet
namespace Go.Proofs.Ytbjpbcanmpimnab.Lo
open Go.RowKit Bk
set_option linter.unusedVariables false
set_option linter.unusedSimpArgs false

def lst (k : Int) : Int := if k = 1 then 0 else 1
theorem least_eq (x m : Int) (h : lst x = m) (w : World) : Calls Try.prog 77 #[.int .i64 x] w fun e w' => e = .returned (.int .i64 m) ∧ w = w' := by
  subst h
  exact least_any x w

theorem flip {P : Program} {f : FuncId} {args : Array Value} {w : World} {v : Value} (h : Calls P f args w fun e w' => e = .returned v ∧ w = w') : Calls P f args w fun e w' => e = .returned v ∧ w' = w := h.mono fun _ _ h => ⟨h.1, h.2.symm⟩

structure Hd (cs : Array Value) (k src si dst di : Int) : Prop where
  k : cs[0]? = some (.int .i64 k)
  src : cs[1]? = some (.int .i64 src)
  si : cs[2]? = some (.int .i64 si)
  dst : cs[3]? = some (.int .i64 dst)
  di : cs[4]? = some (.int .i64 di)

def headB (k src si dst di : Int) : Bool := inR k 1 7 && inR src 0 15 && inR dst 0 15 && (src != dst) && inR si 1 4611686018427387904 && inR di (lst k) 4611686018427387904

end Go.Proofs.Ytbjpbcanmpimnab.Lo
