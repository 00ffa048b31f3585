import Derived.Test.YthogcanfinjfdaaJf
namespace Go.Proofs.Ythogcanfinjfdaa.Et
open Go.RowKit Go.Maps
set_option linter.unusedVariables false
set_option linter.unusedSimpArgs false
set_option maxRecDepth 100000
section
variable {E E1 E' : En} {w w' w1 w2 w3 : World} {B K m : Nat}
structure St (E : En) (w : World) (B K b nn : Nat) : Prop where
  ok : E.Ok w B (256 * K)
  inv : Inv E K
  eb : E.b = b
  en : E.nn = nn
  rm : E.room = 20000
  hB : B ≤ w.heap.size
theorem St.step {b nn m1 : Nat} (s : St E w B K b nn) (st : Step w w1 E E1 B m1) (hm : m1 ≤ 256 * (K + 1)) (x : Nx E E1 K) : St E1 w1 B (K + 1) b nn := ⟨st.ok.mono hm, x.inv, x.b.trans s.eb, x.nn.trans s.en, x.room.trans s.rm, Nat.le_trans s.hB st.kept.size⟩
theorem St.low {b nn m1 : Nat} (s : St E w B K b nn) (st : Step w w1 E E1 B m1) : Below B w w1 := st.kept.below s.hB (fun j hj e => by have := s.ok.geOwn e; omega)
theorem St.still {b nn : Nat} (s : St E w B K b nn) (hb : Below w.heap.size w w1) : St E w1 B K b nn := ⟨s.ok.still hb, s.inv, s.eb, s.en, s.rm, Nat.le_trans s.hB hb.size⟩
theorem rd_two (W : World) (x y : Int) (h : 0 ≤ x ∧ x ≤ 255) (h2 : 0 ≤ y ∧ y ≤ 255) : Rd (W.alloc (.cells #[.int .u8 x, .int .u8 y] 5)) (some ⟨W.heap.size, 0, none⟩) 2 2 [x, y] := by
  refine ⟨rfl, (fun e => by cases e), Or.inr ⟨W.heap.size, 0, rfl, fun i hi => ?_⟩, fun i => ?_⟩
  · rcases (show i = 0 ∨ i = 1 by omega) with rfl | rfl
    · exact blk_cell (heap_alloc_new W _) 0
    · exact blk_cell (heap_alloc_new W _) 1
  · rcases i with _ | _ | i
    · exact h
    · exact h2
    · simp
theorem rd_uno (W : World) (x : Int) (h : 0 ≤ x ∧ x ≤ 255) : Rd (W.alloc (.cells #[.int .u8 x] 5)) (some ⟨W.heap.size, 0, none⟩) 1 1 [x] := by
  refine ⟨rfl, (fun e => by cases e), Or.inr ⟨W.heap.size, 0, rfl, fun i hi => ?_⟩, fun i => ?_⟩
  · obtain rfl : i = 0 := by omega
    exact blk_cell (heap_alloc_new W _) 0
  · cases i with
    | zero => exact h
    | succ i => simp

set_option maxHeartbeats 400000 in
theorem ontime_one (rm d : Int) (gap : Bool) (oa : Option Addr) (n oc : Nat) : Calls Try.prog 3 #[.agg (kc 1 rm oa n oc), .int .i64 d, .bool gap] w fun e w' => e = .returned (.bool true) ∧ Below w.heap.size w w' := by
  generalize hW : w.alloc (.cells #[.int .i64 1, .int .i64 rm, .slice oa n oc] 24) = W
  have hbW : Below w.heap.size w W := by rw [← hW]; exact balloc (Below.refl _ w)
  have hblk : W.heap[w.heap.size]? = some (.cells #[.int .i64 1, .int .i64 rm, .slice oa n oc] 24 (0, 0)) := by rw [← hW]; exact heap_alloc_new w _
  have c0 : W.cell? ⟨w.heap.size, 0, none⟩ = some (.int .i64 1) := blk_cell hblk 0
  have HA : Hid (Calls Try.prog 9 #[.int .i64 1, .int .i64 20000] W fun e w' => ∃ b bn bc bd, e = .returned (.tuple #[.pointer (some ⟨b, 0, none⟩), .int .i64 0]) ∧ En.Ok (newE b bn bc bd 1 20000 1) w' W.heap.size 0 ∧ Below W.heap.size W w') := new_ok 1 20000 (by omega) (by omega) (by omega) (by omega)
  have Hb : Hid (Below w.heap.size w W) := hbW
  unfold kc
  clear hbW hblk
  go_enter Try.func3, Try.ntmps3
  go_wp2_with (fail)
  refine HA.out.mono ?_
  rintro e w1 ⟨b, bn, bc, bd, rfl, hE, hb1⟩
  have d0 := below_at hb1 c0
  clear hE
  go_wp2
  all_goals (go_ret; exact ⟨by simp, bstep Hb.out hb1⟩)
set_option maxHeartbeats 400000 in
theorem ontime_no (nd rm d : Int) (gap : Bool) (oa : Option Addr) (n oc : Nat) (hn : nd < 1 ∨ 16 < nd) : Calls Try.prog 3 #[.agg (kc nd rm oa n oc), .int .i64 d, .bool gap] w fun e w' => e = .returned (.bool true) ∧ Below w.heap.size w w' := by
  generalize hW : w.alloc (.cells #[.int .i64 nd, .int .i64 rm, .slice oa n oc] 24) = W
  have hbW : Below w.heap.size w W := by rw [← hW]; exact balloc (Below.refl _ w)
  have hblk : W.heap[w.heap.size]? = some (.cells #[.int .i64 nd, .int .i64 rm, .slice oa n oc] 24 (0, 0)) := by rw [← hW]; exact heap_alloc_new w _
  have c0 : W.cell? ⟨w.heap.size, 0, none⟩ = some (.int .i64 nd) := blk_cell hblk 0
  have HA : Hid (Calls Try.prog 9 #[.int .i64 nd, .int .i64 20000] W fun e w' => e = .returned (.tuple #[.pointer none, .int .i64 1]) ∧ W = w') := new_no nd 20000 (by unfold badNew; omega)
  have Hb : Hid (Below w.heap.size w W) := hbW
  unfold kc
  clear hbW hblk
  go_enter Try.func3, Try.ntmps3
  go_wp2_with (first | (go_at_call 9; refine HA.out.mono ?_; rintro e w1 ⟨rfl, rfl⟩) | fail)
  all_goals first | (exfalso; omega) | (go_ret; exact ⟨by simp, Hb.out⟩)
end
end Go.Proofs.Ythogcanfinjfdaa.Et
