import Derived.Test.YtbdefhagpgpoiacQ00
import Derived.Test.YtbdefhagpgpoiacQ32
namespace Go.Proofs.Ytbdefhagpgpoiac.Mb
open Go.RowKit
set_option linter.unusedVariables false
set_option maxRecDepth 100000
set_option linter.unusedSimpArgs false
section
variable {A A' : Ag} {w w' W : World} {B : Nat} {T : Int} {R R' : Rg}
theorem results_cell_tmpA {fn : Func} {p u : Tmp} {ty : TypeId} (h : fn.results = #[.cell p ty, .tmp u]) (tmps : Array Value) (w : World) (g : Nat) (t : TypeId) (cs : Array Value) (d : TypeDesc) (v : Value)
    (hp : tmps.getD p undef = .pointer (some ⟨g, 0, none⟩)) (hv : tmps.getD u undef = v) (hg : w.heap[g]? = some (.cells cs t (0, 0)))
    (hu : Try.prog.underlying ty = some d) (hd : (match d with | .struct _ | .array _ _ => true | _ => false) = true) (hi : (Try.prog.info? ty).map (·.size) = some cs.size) :
    (results fn tmps).run Try.prog w = .ok (.tuple #[.agg cs, v]) w := by
  have hp' : tmps[p]?.getD undef = .pointer (some ⟨g, 0, none⟩) := by simpa using hp
  have hv1 : tmps[u]?.getD undef = v := by simpa using hv
  have hl := run_loadVar_row w g t ty cs (0, 0) d hg hu (by cases d <;> simp_all) hi
  simp [results, h, hp', hv1, asAddr, hl, Sem.run_bind]
def Rg.spent (R : Rg) : Prop := R.own.cid = 4611686018427387904 ∨ R.own.rev = 4611686018427387904 ∨ R.id.getD 0 0 = 4611686018427387904
set_option maxHeartbeats 8000000 in
theorem rbegin_no (h : R.Ok w B) {ao : Option Addr} {c : Nat} (hsp : R.spent) : Calls Try.prog 36 #[.pointer (some ⟨R.b, 0, none⟩), .slice ao R.n c] w fun e w' => e = .returned (.tuple #[.agg [.slice R.own.sa R.own.sn R.own.sc, .int .i64 R.own.cid, .int .i64 R.own.rev, .int .i64 R.own.top, .int .i64 (R.own.prev[0]?.getD 0), .int .i64 (R.own.prev[1]?.getD 0), .int .i64 (R.own.prev[2]?.getD 0), .int .i64 (R.own.prev[3]?.getD 0), .slice R.own.va R.own.vn R.own.vc].toArray, .bool false]) ∧ Below w.heap.size w w' := by
  generalize hW1 : w.alloc (.cells [.slice none 0 0, .int .i64 0, .int .i64 0, .int .i64 0, .int .i64 0, .int .i64 0, .int .i64 0, .int .i64 0, .slice none 0 0].toArray 40) = W1
  have b1 : Below w.heap.size w W1 := by rw [← hW1]; exact balloc (Below.refl _ _)
  have k1 : W1.heap[w.heap.size]? = some (.cells [.slice none 0 0, .int .i64 0, .int .i64 0, .int .i64 0, .int .i64 0, .int .i64 0, .int .i64 0, .int .i64 0, .slice none 0 0].toArray 40 (0, 0)) := by rw [← hW1]; exact heap_alloc_new w _
  generalize hW2 : W1.alloc (.cells [.slice R.own.sa R.own.sn R.own.sc, .int .i64 R.own.cid, .int .i64 R.own.rev, .int .i64 R.own.top, .int .i64 (R.own.prev[0]?.getD 0), .int .i64 (R.own.prev[1]?.getD 0), .int .i64 (R.own.prev[2]?.getD 0), .int .i64 (R.own.prev[3]?.getD 0), .slice R.own.va R.own.vn R.own.vc].toArray 40) = W2
  have b2 : Below W1.heap.size W1 W2 := by rw [← hW2]; exact balloc (Below.refl _ _)
  have k2 : W2.heap[W1.heap.size]? = some (.cells [.slice R.own.sa R.own.sn R.own.sc, .int .i64 R.own.cid, .int .i64 R.own.rev, .int .i64 R.own.top, .int .i64 (R.own.prev[0]?.getD 0), .int .i64 (R.own.prev[1]?.getD 0), .int .i64 (R.own.prev[2]?.getD 0), .int .i64 (R.own.prev[3]?.getD 0), .slice R.own.va R.own.vn R.own.vc].toArray 40 (0, 0)) := by rw [← hW2]; exact heap_alloc_new W1 _
  have k1' := (b2.block _ (lt_heap k1)).trans k1
  have R9 : Hid (W1.rangeAt R.b 9 [.slice R.own.sa R.own.sn R.own.sc, .int .i64 R.own.cid, .int .i64 R.own.rev, .int .i64 R.own.top, .int .i64 (R.own.prev[0]?.getD 0), .int .i64 (R.own.prev[1]?.getD 0), .int .i64 (R.own.prev[2]?.getD 0), .int .i64 (R.own.prev[3]?.getD 0), .slice R.own.va R.own.vn R.own.vc]) := (h.still b1).own_r
  have hR2 := (h.still b1).still b2
  have e3 : W2.cell? ⟨R.b, 3, none⟩ = some (.int .i64 (R.id[0]?.getD 0)) := hR2.c 3
  have c1 : W2.cell? ⟨W1.heap.size, 1, none⟩ = some (.int .i64 R.own.cid) := blk_cell k2 1
  have c2 : W2.cell? ⟨W1.heap.size, 2, none⟩ = some (.int .i64 R.own.rev) := blk_cell k2 2
  have HR2 : Hid (R.Ok W2 B) := hR2
  have HK : Hid ((W2.heap[w.heap.size]? = some (.cells [.slice none 0 0, .int .i64 0, .int .i64 0, .int .i64 0, .int .i64 0, .int .i64 0, .int .i64 0, .int .i64 0, .slice none 0 0].toArray 40 (0, 0))) ∧ (W2.heap[W1.heap.size]? = some (.cells [.slice R.own.sa R.own.sn R.own.sc, .int .i64 R.own.cid, .int .i64 R.own.rev, .int .i64 R.own.top, .int .i64 (R.own.prev[0]?.getD 0), .int .i64 (R.own.prev[1]?.getD 0), .int .i64 (R.own.prev[2]?.getD 0), .int .i64 (R.own.prev[3]?.getD 0), .slice R.own.va R.own.vn R.own.vc].toArray 40 (0, 0)))) := ⟨k1', k2⟩
  have HB2 : Hid (Below w.heap.size w W2) := bstep b1 b2
  have s1 : w.heap.size < W1.heap.size := lt_heap k1
  have s2 : W1.heap.size < W2.heap.size := lt_heap k2
  have hbl : R.b < w.heap.size := lt_heap h.blk
  simp only [List.toArray] at hW1 hW2
  generalize hM : W2.setCells w.heap.size 0 [.slice R.own.sa R.own.sn R.own.sc, .int .i64 R.own.cid, .int .i64 R.own.rev, .int .i64 R.own.top, .int .i64 (R.own.prev[0]?.getD 0), .int .i64 (R.own.prev[1]?.getD 0), .int .i64 (R.own.prev[2]?.getD 0), .int .i64 (R.own.prev[3]?.getD 0), .slice R.own.va R.own.vn R.own.vc] = M3
  have m3 : M3.heap[w.heap.size]? = some (.cells [.slice R.own.sa R.own.sn R.own.sc, .int .i64 R.own.cid, .int .i64 R.own.rev, .int .i64 R.own.top, .int .i64 (R.own.prev[0]?.getD 0), .int .i64 (R.own.prev[1]?.getD 0), .int .i64 (R.own.prev[2]?.getD 0), .int .i64 (R.own.prev[3]?.getD 0), .slice R.own.va R.own.vn R.own.vc].toArray 40 (0, 0)) := by rw [← hM]; exact sets_whole k1' rfl
  have T3 : Hid (W2.there w.heap.size 0 9) := blk_there k1' rfl
  have R6 : Hid (W2.rangeAt W1.heap.size 0 [.slice R.own.sa R.own.sn R.own.sc, .int .i64 R.own.cid, .int .i64 R.own.rev, .int .i64 R.own.top, .int .i64 (R.own.prev[0]?.getD 0), .int .i64 (R.own.prev[1]?.getD 0), .int .i64 (R.own.prev[2]?.getD 0), .int .i64 (R.own.prev[3]?.getD 0), .slice R.own.va R.own.vn R.own.vc]) := blk_range k2
  have HBM : Hid (Below w.heap.size w M3) := by show Below w.heap.size w M3; rw [← hM]; exact bsets (Nat.le_refl _) _ 0 HB2.out
  have hcase : R.own.cid = 4611686018427387904 ∨ (R.own.cid ≠ 4611686018427387904 ∧ R.own.rev = 4611686018427387904) ∨ (R.own.cid ≠ 4611686018427387904 ∧ R.own.rev ≠ 4611686018427387904 ∧ R.id[0]?.getD 0 = 4611686018427387904) := by
    rcases hsp with h1 | h1 | h1
    · exact .inl h1
    · by_cases h2 : R.own.cid = 4611686018427387904
      · exact .inl h2
      · exact .inr (.inl ⟨h2, h1⟩)
    · by_cases h2 : R.own.cid = 4611686018427387904
      · exact .inl h2
      · by_cases h3 : R.own.rev = 4611686018427387904
        · exact .inr (.inl ⟨h2, h3⟩)
        · exact .inr (.inr ⟨h2, h3, h1⟩)
  clear h hR2 b1 b2 k1 k2 k1' hsp
  generalize hci : R.own.cid = xc at *
  generalize hre : R.own.rev = xr at *
  generalize hep : R.id[0]?.getD 0 = xe at *
  rcases hcase with hc | hc | hc
  · skip
    subst hc
    go_enter Try.func36, Try.ntmps36
    go_wp2_with (first | (refine load_mid 40 (.tmp 9) R9.out _ Try.underlying40 rfl (by kernel_rfl) rfl rfl rfl ?_) | (refine wl_at 13 rfl ?_) | fail)
    refine wl_take (v := .bool true) (by kernel_rfl) (by (go_simp <;> first | omega | simp_all | (simp; omega))) ?_
    simp only [Act.put, gA, gB, gC, gD, gE, gF]
    refine wlT (.bool true) ?_
    simp only [Act.put, gA, gB, gC, gD, gE, gF]
    refine wlS ?_
    simp only [Act.put, gA, gB, gC, gD, gE, gF]
    refine wlS ?_
    simp only [Act.put, gA, gB, gC, gD, gE, gF]
    refine wlS ?_
    simp only [Act.put, gA, gB, gC, gD, gE, gF]
    refine wlT (.bool true) ?_
    simp only [Act.put, gA, gB, gC, gD, gE, gF]
    refine wlT (.bool true) ?_
    simp only [Act.put, gA, gB, gC, gD, gE, gF]
    refine wlS ?_
    simp only [Act.put, gA, gB, gC, gD, gE, gF]
    refine wlS ?_
    simp only [Act.put, gA, gB, gC, gD, gE, gF]
    refine wlS ?_
    simp only [Act.put, gA, gB, gC, gD, gE, gF]
    refine wlS ?_
    simp only [Act.put, gA, gB, gC, gD, gE, gF]
    refine wlS ?_
    simp only [Act.put, gA, gB, gC, gD, gE, gF]
    refine wlS ?_
    simp only [Act.put, gA, gB, gC, gD, gE, gF]
    refine wlS ?_
    simp only [Act.put, gA, gB, gC, gD, gE, gF]
    refine wlT (.bool true) ?_
    simp only [Act.put, gA, gB, gC, gD, gE, gF]
    refine ⟨?_⟩
    go_wp2_with (first
      | (refine load_mid 40 (.tmp 6) R6.out _ Try.underlying40 rfl (by kernel_rfl) rfl rfl rfl ?_)
      | (refine store_midL 40 (.tmp 4) (.tmp 28) (L := [.slice R.own.sa R.own.sn R.own.sc, .int .i64 4611686018427387904, .int .i64 xr, .int .i64 R.own.top, .int .i64 (R.own.prev[0]?.getD 0), .int .i64 (R.own.prev[1]?.getD 0), .int .i64 (R.own.prev[2]?.getD 0), .int .i64 (R.own.prev[3]?.getD 0), .slice R.own.va R.own.vn R.own.vc]) T3.out info_propose (by simp [Value.oneCell']) rfl rfl rfl rfl ?_; rw [hM])
      | fail)
    (try simp only [Exit.inBlock, Exit.then])
    refine bodyPost_ret (v := .tuple #[.agg [.slice R.own.sa R.own.sn R.own.sc, .int .i64 4611686018427387904, .int .i64 xr, .int .i64 R.own.top, .int .i64 (R.own.prev[0]?.getD 0), .int .i64 (R.own.prev[1]?.getD 0), .int .i64 (R.own.prev[2]?.getD 0), .int .i64 (R.own.prev[3]?.getD 0), .slice R.own.va R.own.vn R.own.vc].toArray, .bool false]) ?_ ?_ ?_
    · exact results_cell_tmpA rfl _ _ w.heap.size 40 _ _ _ rfl rfl m3 Try.underlying40 rfl (by kernel_rfl)
    · rfl
    · exact ⟨rfl, HBM.out⟩
  · skip
    obtain ⟨hc0, hc1⟩ := hc
    subst hc1
    go_enter Try.func36, Try.ntmps36
    go_wp2_with (first | (refine load_mid 40 (.tmp 9) R9.out _ Try.underlying40 rfl (by kernel_rfl) rfl rfl rfl ?_) | (refine wl_at 13 rfl ?_) | fail)
    refine wl_take (v := .bool false) (by kernel_rfl) (by (go_simp <;> first | omega | simp_all | (simp; omega))) ?_
    simp only [Act.put, gA, gB, gC, gD, gE, gF]
    refine wlT (.bool false) ?_
    simp only [Act.put, gA, gB, gC, gD, gE, gF]
    refine wlT (.pointer (some ⟨W1.heap.size, 2, none⟩)) ?_
    simp only [Act.put, gA, gB, gC, gD, gE, gF]
    refine wlT (.int .i64 4611686018427387904) ?_
    simp only [Act.put, gA, gB, gC, gD, gE, gF]
    refine wl_take (v := .bool true) (by kernel_rfl) (by (go_simp <;> first | omega | simp_all | (simp; omega))) ?_
    simp only [Act.put, gA, gB, gC, gD, gE, gF]
    refine wlT (.bool true) ?_
    simp only [Act.put, gA, gB, gC, gD, gE, gF]
    refine wlT (.bool true) ?_
    simp only [Act.put, gA, gB, gC, gD, gE, gF]
    refine wlS ?_
    simp only [Act.put, gA, gB, gC, gD, gE, gF]
    refine wlS ?_
    simp only [Act.put, gA, gB, gC, gD, gE, gF]
    refine wlS ?_
    simp only [Act.put, gA, gB, gC, gD, gE, gF]
    refine wlS ?_
    simp only [Act.put, gA, gB, gC, gD, gE, gF]
    refine wlS ?_
    simp only [Act.put, gA, gB, gC, gD, gE, gF]
    refine wlS ?_
    simp only [Act.put, gA, gB, gC, gD, gE, gF]
    refine wlS ?_
    simp only [Act.put, gA, gB, gC, gD, gE, gF]
    refine wlT (.bool true) ?_
    simp only [Act.put, gA, gB, gC, gD, gE, gF]
    refine ⟨?_⟩
    go_wp2_with (first
      | (refine load_mid 40 (.tmp 6) R6.out _ Try.underlying40 rfl (by kernel_rfl) rfl rfl rfl ?_)
      | (refine store_midL 40 (.tmp 4) (.tmp 28) (L := [.slice R.own.sa R.own.sn R.own.sc, .int .i64 xc, .int .i64 4611686018427387904, .int .i64 R.own.top, .int .i64 (R.own.prev[0]?.getD 0), .int .i64 (R.own.prev[1]?.getD 0), .int .i64 (R.own.prev[2]?.getD 0), .int .i64 (R.own.prev[3]?.getD 0), .slice R.own.va R.own.vn R.own.vc]) T3.out info_propose (by simp [Value.oneCell']) rfl rfl rfl rfl ?_; rw [hM])
      | fail)
    (try simp only [Exit.inBlock, Exit.then])
    refine bodyPost_ret (v := .tuple #[.agg [.slice R.own.sa R.own.sn R.own.sc, .int .i64 xc, .int .i64 4611686018427387904, .int .i64 R.own.top, .int .i64 (R.own.prev[0]?.getD 0), .int .i64 (R.own.prev[1]?.getD 0), .int .i64 (R.own.prev[2]?.getD 0), .int .i64 (R.own.prev[3]?.getD 0), .slice R.own.va R.own.vn R.own.vc].toArray, .bool false]) ?_ ?_ ?_
    · exact results_cell_tmpA rfl _ _ w.heap.size 40 _ _ _ rfl rfl m3 Try.underlying40 rfl (by kernel_rfl)
    · rfl
    · exact ⟨rfl, HBM.out⟩
  · skip
    go_enter Try.func36, Try.ntmps36
    go_wp2_with (first | (refine load_mid 40 (.tmp 9) R9.out _ Try.underlying40 rfl (by kernel_rfl) rfl rfl rfl ?_) | (refine wl_at 13 rfl ?_) | fail)
    refine wl_take (v := .bool false) (by kernel_rfl) (by (go_simp <;> first | omega | simp_all | (simp; omega))) ?_
    simp only [Act.put, gA, gB, gC, gD, gE, gF]
    refine wlT (.bool false) ?_
    simp only [Act.put, gA, gB, gC, gD, gE, gF]
    refine wlT (.pointer (some ⟨W1.heap.size, 2, none⟩)) ?_
    simp only [Act.put, gA, gB, gC, gD, gE, gF]
    refine wlT (.int .i64 xr) ?_
    simp only [Act.put, gA, gB, gC, gD, gE, gF]
    refine wl_take (v := .bool false) (by kernel_rfl) (by (go_simp <;> first | omega | simp_all | (simp; omega))) ?_
    simp only [Act.put, gA, gB, gC, gD, gE, gF]
    refine wlT (.bool false) ?_
    simp only [Act.put, gA, gB, gC, gD, gE, gF]
    refine wlT (.bool false) ?_
    simp only [Act.put, gA, gB, gC, gD, gE, gF]
    refine wlT (.pointer (some ⟨R.b, 0, none⟩)) ?_
    simp only [Act.put, gA, gB, gC, gD, gE, gF]
    refine wlT (.pointer (some ⟨R.b, 0, none⟩)) ?_
    simp only [Act.put, gA, gB, gC, gD, gE, gF]
    refine wlT (.pointer (some ⟨R.b, 3, none⟩)) ?_
    simp only [Act.put, gA, gB, gC, gD, gE, gF]
    refine wlT (.pointer (some ⟨R.b, 3, none⟩)) ?_
    simp only [Act.put, gA, gB, gC, gD, gE, gF]
    refine wlT (.pointer (some ⟨R.b, 3, none⟩)) ?_
    simp only [Act.put, gA, gB, gC, gD, gE, gF]
    refine wlT (.int .i64 xe) ?_
    simp only [Act.put, gA, gB, gC, gD, gE, gF]
    refine wl_take (v := .bool true) (by kernel_rfl) (by (go_simp <;> first | omega | simp_all | (simp; omega))) ?_
    simp only [Act.put, gA, gB, gC, gD, gE, gF]
    refine wlT (.bool true) ?_
    simp only [Act.put, gA, gB, gC, gD, gE, gF]
    refine ⟨?_⟩
    go_wp2_with (first
      | (refine load_mid 40 (.tmp 6) R6.out _ Try.underlying40 rfl (by kernel_rfl) rfl rfl rfl ?_)
      | (refine store_midL 40 (.tmp 4) (.tmp 28) (L := [.slice R.own.sa R.own.sn R.own.sc, .int .i64 xc, .int .i64 xr, .int .i64 R.own.top, .int .i64 (R.own.prev[0]?.getD 0), .int .i64 (R.own.prev[1]?.getD 0), .int .i64 (R.own.prev[2]?.getD 0), .int .i64 (R.own.prev[3]?.getD 0), .slice R.own.va R.own.vn R.own.vc]) T3.out info_propose (by simp [Value.oneCell']) rfl rfl rfl rfl ?_; rw [hM])
      | fail)
    (try simp only [Exit.inBlock, Exit.then])
    refine bodyPost_ret (v := .tuple #[.agg [.slice R.own.sa R.own.sn R.own.sc, .int .i64 xc, .int .i64 xr, .int .i64 R.own.top, .int .i64 (R.own.prev[0]?.getD 0), .int .i64 (R.own.prev[1]?.getD 0), .int .i64 (R.own.prev[2]?.getD 0), .int .i64 (R.own.prev[3]?.getD 0), .slice R.own.va R.own.vn R.own.vc].toArray, .bool false]) ?_ ?_ ?_
    · exact results_cell_tmpA rfl _ _ w.heap.size 40 _ _ _ rfl rfl m3 Try.underlying40 rfl (by kernel_rfl)
    · rfl
    · exact ⟨rfl, HBM.out⟩
end
end Go.Proofs.Ytbdefhagpgpoiac.Mb
