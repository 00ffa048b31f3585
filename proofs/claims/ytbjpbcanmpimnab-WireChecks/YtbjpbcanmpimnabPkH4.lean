import Derived.Test.YtbjpbcanmpimnabPk0
namespace Go.Proofs.Ytbjpbcanmpimnab.Lo
open Go.RowKit Bk
set_option linter.unusedVariables false
set_option linter.unusedSimpArgs false

set_option maxRecDepth 100000 in
set_option maxHeartbeats 8000000 in
theorem head_4 (cs : Array Value) (k src si dst di m : Int) (hd : Hd cs k src si dst di) (HM : Hid (lst k = m)) (w : World) (h0 : inR k 1 7 = true) (h1 : inR src 0 15 = true) (h2 : inR dst 0 15 = true) (h3 : (src != dst) = true) (h4 : inR si 1 4611686018427387904 = false) :
    Calls Try.prog 50 #[.agg cs] w fun x w' => x = .returned (.bool false) ∧ Below w.heap.size w w' := by
  go_enter Try.func50, Try.ntmps50
  go_wp2_with fail
  have HB : Hid (Below w.heap.size w (w.alloc (.cells cs 72))) := balloc (Below.refl _ _)
  have hq := fun i => blk_cell (heap_alloc_new w (.cells cs 72)) i
  have c0 := (hq 0).trans hd.k
  have c1 := (hq 1).trans hd.src
  have c2 := (hq 2).trans hd.si
  have c3 := (hq 3).trans hd.dst
  have c4 := (hq 4).trans hd.di
  clear hq hd
  generalize w.alloc (.cells cs 72) = W0 at *
  go_quiet (first
    | (go_at_call 64; exact Calls.quiet_of_same (flip (within_any _ _ _ _)))
    | (go_at_call 76; exact Calls.quiet_of_same (flip (nodeFits_any _ _)))
    | (go_at_call 77; exact Calls.quiet_of_same (flip (least_eq _ m HM.out _))))
  go_wp2_with fail
  go_ret
  exact ⟨rfl, below_drewN HB.out _⟩

end Go.Proofs.Ytbjpbcanmpimnab.Lo
