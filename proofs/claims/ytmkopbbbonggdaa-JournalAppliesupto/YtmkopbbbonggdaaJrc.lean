import Derived.Test.YtmkopbbbonggdaaJrb
namespace Go.Proofs.Ytmkopbbbonggdaa.Jn
open Go.RowKit Mb Fg
set_option linter.unusedVariables false
set_option maxRecDepth 100000
set_option linter.unusedSimpArgs false
section
variable {w w' W : World} {B : Nat}
structure RdWs (w : World) (wo : Option Addr) (m : Nat) (l : List Wr) : Prop where
  len : l.length = m
  at_ : m = 0 ∨ ∃ b off, wo = some ⟨b, off, none⟩ ∧ ∀ i, i < m → w.rangeAt b (off + i * 3) (l.getD i wr0).cs
  mem : ∀ i, i < m → Rd w (l.getD i wr0).ao (l.getD i wr0).n (l.getD i wr0).c (l.getD i wr0).bs
theorem RdWs.still {wo : Option Addr} {m : Nat} {l : List Wr} (h : RdWs w wo m l) (hb : Below w.heap.size w w') : RdWs w' wo m l :=
  ⟨h.len, h.at_.elim .inl fun ⟨b, off, e, hc⟩ => .inr ⟨b, off, e, fun i hi => below_range hb (hc i hi)⟩, fun i hi => (h.mem i hi).still hb⟩
theorem RdWs.at {wo : Option Addr} {m : Nat} {l : List Wr} (h : RdWs w wo m l) {i : Nat} (hi : i < m) : ∃ b off, wo = some ⟨b, off, none⟩ ∧ w.rangeAt b (off + i * 3) (l.getD i wr0).cs := by
  rcases h.at_ with h0 | ⟨b, off, e, hc⟩
  · omega
  · exact ⟨b, off, e, hc i hi⟩
theorem info_wr : (Try.prog.info? 28).map (·.size) = some 3 := by kernel_rfl
theorem info_dk : (Try.prog.info? 24).map (·.size) = some 2 := by kernel_rfl
theorem info_a2 : (Try.prog.info? 36).map (·.size) = some 2 := by kernel_rfl
theorem newwr (w : World) (x : Wr) : ∃ A1 V, w.alloc (.cells #[.int .i64 0, .bool false, .slice none 0 0] 28) = A1 ∧ Hid (A1.there w.heap.size 0 x.cs.length) ∧ A1.setCells w.heap.size 0 x.cs = V ∧ Hid (V.heap[w.heap.size]? = some (.cells x.cs.toArray 28 (0, 0))) ∧ Hid (Below w.heap.size w V) :=
  ⟨_, _, rfl, new_there w _ _ rfl, rfl, (newvar w 28 #[.int .i64 0, .bool false, .slice none 0 0] x.cs rfl).2, (newvar w 28 #[.int .i64 0, .bool false, .slice none 0 0] x.cs rfl).1⟩
set_option maxHeartbeats 1000000 in
theorem units_any (x : Wr) (hl : x.bs.length = x.n) (hn : x.n ≤ 1000000000000) : Calls Try.prog 12 #[.agg x.cs.toArray] w fun e w' => e = .returned (.int .i64 (x.un : Int)) ∧ Below w.heap.size w w' := by
  generalize hW : w.alloc (.cells x.cs.toArray 28) = W
  have hbW : Below w.heap.size w W := by rw [← hW]; exact balloc (Below.refl _ w)
  have hblk : W.heap[w.heap.size]? = some (.cells x.cs.toArray 28 (0, 0)) := by rw [← hW]; exact heap_alloc_new w _
  have q0 : W.cell? ⟨w.heap.size, 0, none⟩ = some (.int .i64 x.f) := blk_cell hblk 0
  have q1 : W.cell? ⟨w.heap.size, 1, none⟩ = some (.bool x.st) := blk_cell hblk 1
  have q2 : W.cell? ⟨w.heap.size, 2, none⟩ = some (.slice x.ao x.n x.c) := blk_cell hblk 2
  have HB : Hid (Below w.heap.size w W) := hbW
  have HF : Hid (∀ V : World, Calls Try.prog 14 #[.int .i64 x.f] V fun e w' => e = .returned (.bool (isF x.f)) ∧ V = w') := fun V => isFile_any _
  have HU : Hid (x.un = if isF x.f then (if x.st then 1 + x.n else x.n) else 0) := by show _ = _; unfold Wr.un; rw [hl]
  clear hblk hbW hl
  generalize x.f = f at *
  generalize x.st = st at *
  generalize x.un = un at *
  generalize x.cs = cs at *
  cases hf : isF f with
  | false =>
    rw [hf] at HF HU
    obtain rfl : un = 0 := HU.out
    go_enter Try.func12, Try.ntmps12
    go_wp2_with (first
      | (go_at_call 14; refine (HF.out _).mono ?_; rintro e w2 ⟨rfl, rfl⟩)
      | fail)
    go_ret
    exact ⟨rfl, HB.out⟩
  | true =>
    rw [hf] at HF HU
    cases st with
    | true =>
      obtain rfl : un = 1 + x.n := HU.out
      go_enter Try.func12, Try.ntmps12
      go_wp2_with (first
        | (go_at_call 14; refine (HF.out _).mono ?_; rintro e w2 ⟨rfl, rfl⟩)
        | fail)
      go_ret
      exact ⟨by go_num, HB.out⟩
    | false =>
      obtain rfl : un = x.n := HU.out
      go_enter Try.func12, Try.ntmps12
      go_wp2_with (first
        | (go_at_call 14; refine (HF.out _).mono ?_; rintro e w2 ⟨rfl, rfl⟩)
        | fail)
      go_ret
      exact ⟨rfl, HB.out⟩
theorem cost_take {l : List Wr} {k : Nat} (h : k < l.length) : cost (l.take (k + 1)) = cost (l.take k) + (l.getD k wr0).un := by
  rw [List.take_add_one, cost_app]
  simp [List.getD, h, cost]
theorem cost_take_le (l : List Wr) (k : Nat) : cost (l.take k) ≤ cost l := by
  have := cost_app (l.take k) (l.drop k)
  rw [List.take_append_drop] at this
  omega
set_option maxHeartbeats 2000000 in
theorem fcost_any {wo : Option Addr} {m d : Nat} {l : List Wr} (h : RdWs w wo m l) (hm : m ≤ 1000000000000) (hc : cost l ≤ 1000000000000) (hb : ∀ i, i < m → (l.getD i wr0).n ≤ 1000000000000) : Calls Try.prog 5 #[.slice wo m d] w fun e w' => e = .returned (.int .i64 (cost l : Int)) ∧ Below w.heap.size w w' := by
  have HR : Hid (RdWs w wo m l) := h
  have Hl : Hid (l.length = m) := h.len
  have Hn : Hid (∀ i, i < m → (l.getD i wr0).n ≤ 1000000000000) := hb
  clear h hb
  go_enter Try.func5, Try.ntmps5
  go_wp2
  go_loopw [3, 5, 8] (fun s p i wr => ∃ k : Nat, k ≤ m ∧ i = .int .i64 (k : Int) ∧ s = .int .i64 (cost (l.take k) : Int) ∧ Hid (Below w.heap.size w wr)) (fun _ _ i _ => m - (intOf i).toNat)
  case atStart => exact ⟨0, Nat.zero_le _, rfl, by simp [cost], Below.refl _ _⟩
  case round =>
    obtain ⟨k, hk, rfl, rfl, HBk⟩ := hrel
    by_cases hlt : k < m
    · obtain ⟨b, off, hwo, hrg⟩ := (HR.out.still HBk.out).at hlt
      have HX : Hid (wr.rangeAt b (off + k * 3) (l.getD k wr0).cs) := hrg
      have hlen := (HR.out.mem k hlt).len
      have hxn := Hn.out k hlt
      have hct := cost_take (l := l) (k := k) (by rw [Hl.out]; exact hlt)
      have hcl := cost_take_le l (k + 1)
      have HCt : Hid (cost (l.take (k + 1)) = cost (l.take k) + (l.getD k wr0).un) := hct
      rw [hct] at hcl
      generalize l.getD k wr0 = x at *
      generalize cost (l.take k) = C at *
      obtain ⟨A1, V, hA1, HTh, hV, HVb, HBV⟩ := newwr wr x
      have HRg : Hid (V.rangeAt wr.heap.size 0 x.cs) := blk_range HVb.out
      have HU : Hid (∀ V : World, Calls Try.prog 12 #[.agg x.cs.toArray] V fun e w' => e = .returned (.int .i64 (x.un : Int)) ∧ Below V.heap.size V w') := fun V => units_any x hlen hxn
      have i1 : (0 : Int) ≤ (k : Int) := Int.natCast_nonneg _
      have i2 : (k : Int) < (m : Int) := by omega
      rw [hwo]
      clear hrg hlen hxn hct hwo
      generalize x.un = un at *
      go_wp2_with (first
        | (refine at_load 28 (.tmp 10) rfl ?_; refine load_mid 28 (.tmp 10) HX.out _ Try.underlying28 rfl info_wr rfl rfl rfl ?_)
        | (refine at_store 28 (.tmp 5) (.tmp 11) rfl ?_; refine store_rowL 28 (.tmp 5) (.tmp 11) HTh.out info_wr x.cs_one rfl rfl rfl rfl ?_)
        | (refine at_load 28 (.tmp 5) rfl ?_; refine load_mid 28 (.tmp 5) HRg.out _ Try.underlying28 rfl info_wr rfl rfl rfl ?_)
        | (go_at_call 12; refine (HU.out _).mono ?_; rintro e w2 ⟨rfl, hb2⟩)
        | fail)
      refine ⟨⟨k + 1, by omega, by go_num, ?_, bstep (bstep HBk.out HBV.out) hb2⟩, by simp [intOf]; omega⟩
      rw [HCt.out]
      rfl
    · obtain rfl : k = m := by omega
      have e1 : l.take k = l := List.take_of_length_le (by rw [Hl.out]; exact Nat.le_refl _)
      rw [e1]
      go_wp2
      go_ret
      exact ⟨rfl, HBk.out⟩
set_option maxHeartbeats 2000000 in
theorem qcost_any {wo : Option Addr} {m d : Nat} {l : List Wr} (h : RdWs w wo m l) (hm : m ≤ 1000000000000) (hc : cost l ≤ 1000000000000) (hb : ∀ i, i < m → (l.getD i wr0).n ≤ 1000000000000) : Calls Try.prog 6 #[.slice wo m d] w fun e w' => e = .returned (.int .i64 (cost l : Int)) ∧ w = w' := by
  have HR : Hid (RdWs w wo m l) := h
  have Hl : Hid (l.length = m) := h.len
  have Hn : Hid (∀ i, i < m → (l.getD i wr0).n ≤ 1000000000000) := hb
  clear h hb
  go_enter Try.func6, Try.ntmps6
  go_wp2
  go_loopw [3, 4] (fun s i wr => ∃ k : Nat, k ≤ m ∧ i = .int .i64 (k : Int) ∧ s = .int .i64 (cost (l.take k) : Int) ∧ w = wr) (fun _ i _ => m - (intOf i).toNat)
  case atStart => exact ⟨0, Nat.zero_le _, rfl, by simp [cost], rfl⟩
  case round =>
    obtain ⟨k, hk, rfl, rfl, rfl⟩ := hrel
    by_cases hlt : k < m
    · obtain ⟨b, off, hwo, hrg⟩ := HR.out.at hlt
      have hlen := (HR.out.mem k hlt).len
      have hxn := Hn.out k hlt
      have hct := cost_take (l := l) (k := k) (by rw [Hl.out]; exact hlt)
      have hcl := cost_take_le l (k + 1)
      have HCt : Hid (cost (l.take (k + 1)) = cost (l.take k) + (l.getD k wr0).un) := hct
      rw [hct] at hcl
      have q0 : w.cell? ⟨b, off + k * 3, none⟩ = some (.int .i64 (l.getD k wr0).f) := hrg 0 _ rfl
      have q1 : w.cell? ⟨b, off + k * 3 + 1, none⟩ = some (.bool (l.getD k wr0).st) := hrg 1 _ rfl
      have q2 : w.cell? ⟨b, off + k * 3 + 2, none⟩ = some (.slice (l.getD k wr0).ao (l.getD k wr0).n (l.getD k wr0).c) := hrg 2 _ rfl
      have HU : Hid ((l.getD k wr0).un = if isF (l.getD k wr0).f then (if (l.getD k wr0).st then 1 + (l.getD k wr0).n else (l.getD k wr0).n) else 0) := by show _ = _; unfold Wr.un; rw [hlen]
      generalize l.getD k wr0 = x at *
      generalize cost (l.take k) = C at *
      have i1 : (0 : Int) ≤ (k : Int) := Int.natCast_nonneg _
      have i2 : (k : Int) < (m : Int) := by omega
      rw [hwo]
      clear hrg hlen hct hwo
      generalize x.un = un at *
      generalize x.f = f at *
      generalize x.st = st at *
      cases hf : isF f with
      | false =>
        rw [hf] at HU
        obtain rfl : un = 0 := HU.out
        have f0 : (f == 0) = false := by rw [beq_eq_false_iff_ne]; intro e; rw [e] at hf; cases hf
        have f1 : (f == 1) = false := by rw [beq_eq_false_iff_ne]; intro e; rw [e] at hf; cases hf
        clear hf HU
        go_wp2
        exact ⟨⟨k + 1, by omega, by go_num, by rw [HCt.out]; rfl, (by trivial)⟩, by simp [intOf]; omega⟩
      | true =>
        rw [hf] at HU
        have hff : f = 0 ∨ f = 1 := by unfold isF at hf; simpa using hf
        clear hf
        cases st with
        | true =>
          obtain rfl : un = 1 + x.n := HU.out
          rcases hff with rfl | rfl
          · go_wp2
            refine ⟨⟨k + 1, by omega, by go_num, ?_, (by trivial)⟩, by simp [intOf]; omega⟩
            rw [HCt.out]
            exact congrArg (Value.int .i64) (by omega)
          · go_wp2
            refine ⟨⟨k + 1, by omega, by go_num, ?_, (by trivial)⟩, by simp [intOf]; omega⟩
            rw [HCt.out]
            exact congrArg (Value.int .i64) (by omega)
        | false =>
          obtain rfl : un = x.n := HU.out
          rcases hff with rfl | rfl
          · go_wp2
            exact ⟨⟨k + 1, by omega, by go_num, by rw [HCt.out]; rfl, (by trivial)⟩, by simp [intOf]; omega⟩
          · go_wp2
            exact ⟨⟨k + 1, by omega, by go_num, by rw [HCt.out]; rfl, (by trivial)⟩, by simp [intOf]; omega⟩
    · obtain rfl : k = m := by omega
      have e1 : l.take k = l := List.take_of_length_le (by rw [Hl.out]; exact Nat.le_refl _)
      rw [e1]
      go_wp2
      go_ret
      exact ⟨rfl, rfl⟩
end
end Go.Proofs.Ytmkopbbbonggdaa.Jn
