import Derived.Test.YtbdefhagpgpoiaaAu
namespace Go.Proofs.Ytbdefhagpgpoiaa.Mb
open Go.RowKit
set_option linter.unusedVariables false
set_option maxRecDepth 100000
set_option linter.unusedSimpArgs false
section
variable {A A' : Ag} {w w' W : World} {B : Nat} {T : Int}
theorem results_cell_tmp2 {fn : Func} {p u x : Tmp} {ty : TypeId} (h : fn.results = #[.cell p ty, .tmp u, .tmp x]) (tmps : Array Value) (w : World) (g : Nat) (t : TypeId) (cs : Array Value) (d : TypeDesc) (v v' : Value)
    (hp : tmps.getD p undef = .pointer (some ⟨g, 0, none⟩)) (hv : tmps.getD u undef = v) (hv' : tmps.getD x undef = v') (hg : w.heap[g]? = some (.cells cs t (0, 0)))
    (hu : Try.prog.underlying ty = some d) (hd : (match d with | .struct _ | .array _ _ => true | _ => false) = true) (hi : (Try.prog.info? ty).map (·.size) = some cs.size) :
    (results fn tmps).run Try.prog w = .ok (.tuple #[.agg cs, v, v']) w := by
  have hp' : tmps[p]?.getD undef = .pointer (some ⟨g, 0, none⟩) := by simpa using hp
  have hv1 : tmps[u]?.getD undef = v := by simpa using hv
  have hv2 : tmps[x]?.getD undef = v' := by simpa using hv'
  have hl := run_loadVar_row w g t ty cs (0, 0) d hg hu (by cases d <;> simp_all) hi
  simp [results, h, hp', hv1, hv2, asAddr, hl, Sem.run_bind]
theorem mids_pos (A : Ag) (h16 : 1 ≤ A.n ∧ A.n ≤ 16 ∧ A.self < A.n) (hs : A.own.set.getD A.self 0 ≠ 0) : 0 < A.mids.length := by
  have : A.self ∈ A.mids := List.mem_filter.2 ⟨List.mem_range.2 h16.2.2, by simpa [Ag.all1] using hs⟩
  exact List.length_pos_of_mem this
set_option maxHeartbeats 2000000 in
theorem agreed_no (h : A.Ok w B T) (hg : A.agr = false) : Calls Try.prog 37 #[.pointer (some ⟨A.b, 0, none⟩)] w fun e w' => e = .returned (.tuple #[.agg #[.int .i64 0, .int .i64 0, .int .i64 0, .int .i64 0, .slice none 0 0], .slice none 0 0, .bool false]) ∧ Below w.heap.size w w' := by
  generalize hW1 : w.alloc (.cells #[.int .i64 0, .int .i64 0, .int .i64 0, .int .i64 0, .slice none 0 0] 32) = W1
  have b1 : Below w.heap.size w W1 := hW1 ▸ balloc (Below.refl _ _)
  have k1 : W1.heap[w.heap.size]? = some (.cells #[.int .i64 0, .int .i64 0, .int .i64 0, .int .i64 0, .slice none 0 0] 32 (0, 0)) := by rw [← hW1]; exact heap_alloc_new w _
  have HI : Hid (Calls Try.prog 51 #[.pointer (some ⟨A.b, 0, none⟩)] W1 fun e w' => e = .returned (.bool false) ∧ Below W1.heap.size W1 w') := hg ▸ isAgreed_any (h.still b1)
  have HK : Hid (W1.heap[w.heap.size]? = some (.cells #[.int .i64 0, .int .i64 0, .int .i64 0, .int .i64 0, .slice none 0 0] 32 (0, 0))) := k1
  have HB1 : Hid (Below w.heap.size w W1) := b1
  clear h b1 k1
  go_enter Try.func37, Try.ntmps37
  go_wp2_with (first
    | (go_at_call 51; refine HI.out.mono ?_; rintro e W2 ⟨rfl, hb2⟩; have HB2 : Hid (Below W1.heap.size W1 W2) := hb2; have HK2 : Hid (W2.heap[w.heap.size]? = some (.cells #[.int .i64 0, .int .i64 0, .int .i64 0, .int .i64 0, .slice none 0 0] 32 (0, 0))) := (hb2.block _ (lt_heap HK.out)).trans HK.out; clear hb2)
    | (refine wpList_store_row rfl 32 (.tmp 2) (.tmp 8) rfl w.heap.size #[.int .i64 0, .int .i64 0, .int .i64 0, .int .i64 0, .slice none 0 0] rfl rfl 32 _ HK2.out (by kernel_rfl) rfl (by simp [Value.oneCell']) ?_)
    | fail)
  (try simp only [Exit.inBlock, Exit.then])
  refine bodyPost_ret (v := .tuple #[.agg #[.int .i64 0, .int .i64 0, .int .i64 0, .int .i64 0, .slice none 0 0], .slice none 0 0, .bool false]) ?_ ?_ ?_
  · exact results_cell_tmp2 rfl _ _ w.heap.size 32 _ _ _ _ rfl rfl rfl (setRow_heap W2 w.heap.size _ #[.int .i64 0, .int .i64 0, .int .i64 0, .int .i64 0, .slice none 0 0] 32 _ HK2.out) Try.underlying32 rfl (by kernel_rfl)
  · rfl
  · exact ⟨rfl, below_setRow (bstep HB1.out HB2.out) (Nat.le_refl _) _⟩
set_option maxHeartbeats 2000000 in
theorem agreed_yes (h : A.Ok w B T) (hT : T ≤ 4611686018427387904) (hs : A.own.set.getD A.self 0 ≠ 0) (hg : A.agr = true) : Calls Try.prog 37 #[.pointer (some ⟨A.b, 0, none⟩)] w fun e w' => ∃ g c v, e = .returned (.tuple #[.agg (A.avC g c), v, .bool true]) ∧ w'.ownsRow w.heap.size 86 3 (.slice (some ⟨g, 0, none⟩) A.mids.length c) A.mids.length (ints (A.msL A.mids)) ∧ w'.ownsRow w.heap.size 3 1 v (A.wl (A.tog)).length (ints (A.wl (A.tog))) ∧ (∀ k, v.ownBlock = some k → g < k) ∧ Below w.heap.size w w' := by
  generalize hW1 : w.alloc (.cells #[.int .i64 0, .int .i64 0, .int .i64 0, .int .i64 0, .slice none 0 0] 32) = W1
  have b1 : Below w.heap.size w W1 := hW1 ▸ balloc (Below.refl _ _)
  have hs1 : w.heap.size < W1.heap.size := by rw [← hW1]; simp
  have k1 : W1.heap[w.heap.size]? = some (.cells #[.int .i64 0, .int .i64 0, .int .i64 0, .int .i64 0, .slice none 0 0] 32 (0, 0)) := by rw [← hW1]; exact heap_alloc_new w _
  have HI : Hid (Calls Try.prog 51 #[.pointer (some ⟨A.b, 0, none⟩)] W1 fun e w' => e = .returned (.bool true) ∧ Below W1.heap.size W1 w') := hg ▸ isAgreed_any (h.still b1)
  have HK : Hid (W1.heap[w.heap.size]? = some (.cells #[.int .i64 0, .int .i64 0, .int .i64 0, .int .i64 0, .slice none 0 0] 32 (0, 0))) := k1
  have HB1 : Hid (Below w.heap.size w W1) := b1
  have HA1 : Hid (A.Ok W1 B T) := h.still b1
  have Hpos : Hid (0 < A.mids.length) := mids_pos A h.n16 hs
  clear h b1 k1 hs
  go_enter Try.func37, Try.ntmps37
  go_wp2_with (first
    | (refine wpList_store_row rfl 32 (.tmp 2) (.tmp 10) rfl w.heap.size (A.avC g c) rfl rfl 32 _ HK4.out (by kernel_rfl) rfl (by simp [Ag.avC, Value.oneCell']) ?_)
    | (go_at_call 53; refine (trans_any HA3.out).mono ?_; rintro e W4 ⟨v, rfl, ho4, hb4⟩; have HB4 : Hid (Below W3.heap.size W3 W4) := hb4; have HO4 : Hid (W4.ownsRow W3.heap.size 3 1 v (A.wl (A.tog)).length (ints (A.wl (A.tog)))) := ho4; have HK4 : Hid (W4.heap[w.heap.size]? = some (.cells #[.int .i64 0, .int .i64 0, .int .i64 0, .int .i64 0, .slice none 0 0] 32 (0, 0))) := (hb4.block _ (lt_heap HK3.out)).trans HK3.out; clear hb4 ho4)
    | (go_at_call 52; refine (agreedView_any HA2.out hT Hpos.out).mono ?_; rintro e W3 ⟨g, c, rfl, ho3, hb3⟩; have HB3 : Hid (Below W2.heap.size W2 W3) := hb3; have HO3 : Hid (W3.ownsRow W2.heap.size 86 3 (.slice (some ⟨g, 0, none⟩) A.mids.length c) A.mids.length (ints (A.msL A.mids))) := ho3; have HK3 : Hid (W3.heap[w.heap.size]? = some (.cells #[.int .i64 0, .int .i64 0, .int .i64 0, .int .i64 0, .slice none 0 0] 32 (0, 0))) := (hb3.block _ (lt_heap HK2.out)).trans HK2.out; have HA3 : Hid (A.Ok W3 B T) := HA2.out.still hb3; clear hb3 ho3)
    | (go_at_call 51; refine HI.out.mono ?_; rintro e W2 ⟨rfl, hb2⟩; have HB2 : Hid (Below W1.heap.size W1 W2) := hb2; have HK2 : Hid (W2.heap[w.heap.size]? = some (.cells #[.int .i64 0, .int .i64 0, .int .i64 0, .int .i64 0, .slice none 0 0] 32 (0, 0))) := (hb2.block _ (lt_heap HK.out)).trans HK.out; have HA2 : Hid (A.Ok W2 B T) := HA1.out.still hb2; clear hb2)
    | fail)
  (try simp only [Exit.inBlock, Exit.then])
  have hB4 := bstep (bstep (bstep HB1.out HB2.out) HB3.out) HB4.out
  have kF : Kept W4 (W4.setRow w.heap.size (A.avC g c)) (fun j => j = w.heap.size) := ⟨rfl, rfl, rfl, by simp [World.setRow], fun k hk hp => setRow_other W4 _ k _ hp⟩
  have l1 := HB2.out.size
  have l2 := HB3.out.size
  have hg3 := World.ownsRow.lt HO3.out g rfl
  refine bodyPost_ret (v := .tuple #[.agg (A.avC g c), v, .bool true]) ?_ ?_ ?_
  · exact results_cell_tmp2 rfl _ _ w.heap.size 32 _ _ _ _ rfl rfl rfl (setRow_heap W4 w.heap.size _ (A.avC g c) 32 _ HK4.out) Try.underlying32 rfl (by kernel_rfl)
  · rfl
  · refine ⟨g, c, v, rfl, own_lower (kF.owns (own_still HO3.out HB4.out) (fun k hk e => ?_)) (by omega), own_lower (kF.owns HO4.out (fun k hk e => ?_)) (by omega), fun k hk => ?_, below_setRow hB4 (Nat.le_refl _) _⟩
    · have := (World.ownsRow.lt HO3.out k hk).1; omega
    · have := (World.ownsRow.lt HO4.out k hk).1; omega
    · have := (World.ownsRow.lt HO4.out k hk).1; omega
end
end Go.Proofs.Ytbdefhagpgpoiaa.Mb
