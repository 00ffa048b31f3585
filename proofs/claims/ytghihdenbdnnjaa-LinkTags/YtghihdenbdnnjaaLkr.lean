import Derived.Test.YtghihdenbdnnjaaLkq
namespace Go.Proofs.Ytghihdenbdnnjaa.Ln
open Go.RowKit Mb
set_option linter.unusedVariables false
set_option maxRecDepth 100000
set_option linter.unusedSimpArgs false
section
variable {w w' W : World} {B : Nat}
theorem pid_any {s : Int} (h0 : 0 ≤ s) (h1 : s ≤ 1) : Calls Try.prog 15 #[.int .i64 s] w fun e w' => e = .returned (.int .i64 (2 + 3 * s)) ∧ w = w' := by
  go_enter Try.func15, Try.ntmps15
  go_wp2
  go_ret
  exact ⟨rfl, rfl⟩
def absI (n : Int) : Int := if n < 0 then -(n + 1) else n
theorem absI_nn (n : Int) : 0 ≤ absI n := by unfold absI; split <;> omega
theorem absI_le {n : Int} (h0 : -9223372036854775808 ≤ n) (h1 : n ≤ 9223372036854775807) : absI n ≤ 9223372036854775807 := by unfold absI; split <;> omega
theorem abs_any {n : Int} (h0 : -9223372036854775808 ≤ n) (h1 : n ≤ 9223372036854775807) : Calls Try.prog 30 #[.int .i64 n] w fun e w' => e = .returned (.int .i64 (absI n)) ∧ w = w' := by
  by_cases h : n < 0
  · have e : absI n = -(n + 1) := by unfold absI; rw [if_pos h]
    rw [e]
    go_enter Try.func30, Try.ntmps30
    go_wp2
    go_ret
    exact ⟨rfl, rfl⟩
  · have e : absI n = n := by unfold absI; rw [if_neg h]
    rw [e]
    go_enter Try.func30, Try.ntmps30
    go_wp2
    go_ret
    exact ⟨rfl, rfl⟩
def tg9 : Tg := ⟨3, 2, 4, 9⟩
theorem tag_any : Calls Try.prog 13 #[] w fun e w' => e = .returned (.agg #[.int .i64 3, .int .i64 2, .int .i64 4, .int .i64 9]) ∧ Below w.heap.size w w' := by
  generalize hW : w.alloc (.cells #[.int .i64 0, .int .i64 0, .int .i64 0, .int .i64 0] 24) = W
  have hblk : W.heap[w.heap.size]? = some (.cells #[.int .i64 0, .int .i64 0, .int .i64 0, .int .i64 0] 24 (0, 0)) := by rw [← hW]; exact heap_alloc_new _ _
  have hbW : Below w.heap.size w W := by rw [← hW]; exact balloc (Below.refl _ _)
  have HT : Hid (W.there w.heap.size 0 4) := blk_there hblk rfl
  generalize hV : W.setCells w.heap.size 0 [.int .i64 3, .int .i64 2, .int .i64 4, .int .i64 9] = V
  have hVb : V.heap[w.heap.size]? = some (.cells [.int .i64 3, .int .i64 2, .int .i64 4, .int .i64 9].toArray 24 (0, 0)) := by rw [← hV]; exact sets_whole hblk rfl
  have HBV : Hid (Below w.heap.size w V) := (show Below _ _ _ from by rw [← hV]; exact bsets (Nat.le_refl _) _ _ hbW)
  have v0 : V.cell? ⟨w.heap.size, 0, none⟩ = some (.int .i64 3) := blk_cell hVb 0
  have v1 : V.cell? ⟨w.heap.size, 1, none⟩ = some (.int .i64 2) := blk_cell hVb 1
  have v2 : V.cell? ⟨w.heap.size, 2, none⟩ = some (.int .i64 4) := blk_cell hVb 2
  have v3 : V.cell? ⟨w.heap.size, 3, none⟩ = some (.int .i64 9) := blk_cell hVb 3
  clear hblk hbW hVb
  go_enter Try.func13, Try.ntmps13
  go_wp2_with (first | (refine at_store 24 _ _ rfl ?_; refine wl_storeL rfl 24 _ _ rfl (L := [.int .i64 3, .int .i64 2, .int .i64 4, .int .i64 9]) rfl rfl HT.out info_id (tg_one tg9) ?_; rw [hV]) | fail)
  exact bodyPost_ret (v := .agg #[.int .i64 3, .int .i64 2, .int .i64 4, .int .i64 9]) (by simp [results, Try.results13, go_sem, v0, v1, v2, v3]) rfl ⟨rfl, HBV.out⟩

structure Bn where
  k : Nat
  c : Nat
  bs : List Int
def Bn.v (b : Bn) : Value := .slice (some ⟨b.k, 0, none⟩) b.bs.length b.c
structure Bn.Ok (b : Bn) (w : World) (B : Nat) : Prop where
  blk : ∃ C : Array Value, w.heap[b.k]? = some (.cells C 5 (0, 0)) ∧ ∀ i, i < b.bs.length → C[i]? = some (.int .u8 (b.bs.getD i 0))
  by_ : By b.bs
  cap : b.bs.length ≤ b.c
  lo : B ≤ b.k
  pos : 0 < b.bs.length
  le : b.bs.length ≤ 300
theorem Bn.Ok.keep {b : Bn} {P : Nat → Prop} (h : b.Ok w B) (k : Kept w w' P) (hp : ¬ P b.k) : b.Ok w' B := by
  obtain ⟨C, h1, h2⟩ := h.blk
  exact ⟨⟨C, k.obj h1 hp, h2⟩, h.by_, h.cap, h.lo, h.pos, h.le⟩
theorem Bn.Ok.still {b : Bn} (h : b.Ok w B) (hb : Below w.heap.size w w') : b.Ok w' B := h.keep (Kept.ofBelow hb (fun _ => False)) id
theorem Bn.Ok.rd {b : Bn} (h : b.Ok w B) : Rd w (some ⟨b.k, 0, none⟩) b.bs.length b.c b.bs := by
  obtain ⟨C, h1, h2⟩ := h.blk
  exact ⟨rfl, h.cap, by simp, .inr ⟨b.k, 0, rfl, fun i hi => by rw [Nat.zero_add, blk_cell h1]; exact h2 i hi⟩, h.by_⟩
theorem Bn.Ok.lt {b : Bn} (h : b.Ok w B) : b.k < w.heap.size := by obtain ⟨C, h1, _⟩ := h.blk; exact lt_heap h1
theorem Body.bn {b : Bd} (h : Body w B b) : (⟨b.k, b.bs.length, b.bs⟩ : Bn).Ok w B :=
  ⟨⟨_, h.bk, fun i hi => by rw [List.getElem?_toArray]; exact byts_at _ i hi⟩, h.by_, Nat.le_refl _, h.lo, h.pos, h.le⟩
theorem bd_bn (b : Bd) : b.v = (⟨b.k, b.bs.length, b.bs⟩ : Bn).v := rfl
theorem step_app_rd {ops : Array Oper} {rest : List Oper} {o : Oper} {a : Act} {Q : Exit → Act → World → Prop} (hgd : o.guard = none) (s x : Operand)
    (ho : o.op = .call { callee := .builtin .append, args := #[s, x], argTypes := #[25, 25] })
    (w0 : World) (v : Value) (hs : a.eval s = v) (hown : w.ownsRow w0.heap.size 5 1 v 0 []) (ao : Option Addr) (n c : Nat) (bs : List Int) (hx : a.eval x = .slice ao n c) (hr : Rd w ao n c bs) (hn : 0 < n) (hn2 : n ≤ 1000000) (hb0 : Below w0.heap.size w0 w)
    (h : ∀ g cap w', w'.ownsRow w0.heap.size 5 1 (.slice (some ⟨g, 0, none⟩) n cap) n (byts bs) → Below w0.heap.size w0 w' → wpList Try.prog ops Q rest (a.put o.dst (.slice (some ⟨g, 0, none⟩) n cap)) w') : wpList Try.prog ops Q (o :: rest) a w := by
  obtain ⟨i0, hi, hz0, hz1, hz2⟩ := byte_info
  obtain ⟨ad, had⟩ : ∃ ad, ao = some ad := by
    rcases hr.at_ with h0 | ⟨b, off, h1, _⟩
    · omega
    · exact ⟨_, h1⟩
  subst had
  refine wpList_append_lies w hgd s x 25 ho w0.heap.size 5 i0 (.int .u8 0) 1 1 Try.underlying25 hi hz0 hz1 hz2 rfl (by decide) v 0 [] hs hown ad n c (byts bs) hx (by rw [byts_len, hr.len]; omega) (hr.news ad rfl) (byts_one bs) hn (by unfold maxLen; omega) (by omega) hb0.size _ rfl fun g cap w' h2 h3 h4 h5 => ?_
  have e : 0 + n = n := by omega
  rw [e] at h2
  rw [e]
  refine h g cap w' (by simpa using h2) ?_
  exact hb0.grown h3 hb0.size (fun q hq => (World.ownsRow.lt hown q hq).1)
theorem own_empty (w : World) : (w.alloc (.cells #[] 5)).ownsRow w.heap.size 5 1 (.slice (some ⟨w.heap.size, 0, none⟩) 0 0) 0 [] :=
  World.ownsRow_made w #[] 0 (Nat.le_refl _) (Nat.zero_le _) rfl
structure CpO (w w' : World) (bs : List Int) (e : Ending) : Prop where
  bn : ∃ b : Bn, e = .returned b.v ∧ b.bs = bs ∧ b.Ok w' w.heap.size
  bel : Below w.heap.size w w'
set_option maxHeartbeats 400000 in
theorem copied_any {ao : Option Addr} {n c : Nat} {bs : List Int} (hr : Rd w ao n c bs) (hn : 0 < n) (hn2 : n ≤ 300) : Calls Try.prog 29 #[.slice ao n c] w fun e w' => CpO w w' bs e := by
  have Hr : Hid (Rd w ao n c bs) := hr
  have hby := hr.by_
  have hln := hr.len
  have HX : Hid (∀ g cap w', w'.ownsRow w.heap.size 5 1 (.slice (some ⟨g, 0, none⟩) n cap) n (byts bs) → ∃ b : Bn, Ending.returned (Value.slice (some ⟨g, 0, none⟩) n cap) = .returned b.v ∧ b.bs = bs ∧ b.Ok w' w.heap.size) := fun g cap w' ho => by
    subst hln
    rcases ho.2 with ⟨h3, _⟩ | ⟨g', cap', cur, hv, hg, hh, hr1, hr2, hr3, hr4⟩
    · cases h3
    · simp at hv
      obtain ⟨hg', rfl⟩ := hv
      subst hg'
      refine ⟨⟨g, cap, bs⟩, rfl, rfl, ⟨⟨cur, hh, fun i hi => ?_⟩, hby, hr1, hg, by show 0 < bs.length; omega, by show bs.length ≤ 300; omega⟩⟩
      have hi' : i < bs.length := hi
      have e1 : cur[i]? = (cur.toList.take (bs.length * 1))[i]? := by rw [List.getElem?_take]; simp [hi']
      rw [e1, hr4]
      exact byts_at bs i hi'
  clear hr hby hln
  have Hb1 : Hid (Below w.heap.size w (w.alloc (.cells #[] 5))) := (Below.refl _ _).alloc (Nat.le_refl _) _
  go_enter Try.func29, Try.ntmps29
  go_wp2_with (first | (at_builtin; refine step_app_rd rfl _ _ rfl w _ rfl (own_empty w) ao n c bs rfl (Hr.out.still Hb1.out) hn (by omega) Hb1.out ?_) | fail)
  intro g cap w' ho hb
  have HX2 := HX.out g cap w' ho
  have HB : Hid (Below w.heap.size w w') := hb
  have HY : Hid (CpO w w' bs (.returned (.slice (some ⟨g, 0, none⟩) n cap))) := ⟨HX2, hb⟩
  clear HX2 ho hb HX
  go_wp2
  go_ret
  exact HY.out
set_option maxHeartbeats 400000 in
theorem same_eq {a1 a2 : Option Addr} {n c1 c2 : Nat} {bs : List Int} (h1 : Rd w a1 n c1 bs) (h2 : Rd w a2 n c2 bs) (hn : n ≤ 1000000) : Calls Try.prog 31 #[.slice a1 n c1, .slice a2 n c2] w fun e w' => e = .returned (.bool true) ∧ Below w.heap.size w w' := by
  have H1 : Hid (Rd w a1 n c1 bs) := h1
  have H2 : Hid (Rd w a2 n c2 bs) := h2
  clear h1 h2
  have hne : ((n : Int) != (n : Int)) = false := by simp
  go_enter Try.func31, Try.ntmps31
  go_wp2
  go_loopw [5] (fun v5 wr => ∃ i : Nat, i ≤ n ∧ v5 = .int .i64 (i : Int) ∧ Hid (Below w.heap.size w wr)) (fun v5 _ => n - (intOf v5).toNat)
  case atStart => exact ⟨0, Nat.zero_le _, rfl, Below.refl _ _⟩
  case round =>
    obtain ⟨i, hi, rfl, hb⟩ := hrel
    by_cases hlt : i < n
    · rcases (H1.out.still hb.out).at_ with h0 | ⟨b1, o1, rfl, hc1⟩
      · omega
      · rcases (H2.out.still hb.out).at_ with h0 | ⟨b2, o2, rfl, hc2⟩
        · omega
        · have x1 := hc1 i hlt
          have x2 := hc2 i hlt
          have i1 : (0 : Int) ≤ (i : Int) := Int.natCast_nonneg _
          have i2 : (i : Int) < (n : Int) := by omega
          generalize bs.getD i 0 = x at *
          clear hc1 hc2
          go_wp2
          go_quiet (fail)
          all_goals (go_wp2; exact ⟨⟨i + 1, by omega, by go_num, (show Below _ _ _ from by repeat (first | exact hb.out | apply below_drewN | apply Below.drew))⟩, by simp [intOf]; omega⟩)
    · obtain rfl : i = n := by omega
      go_wp2
      go_ret
      exact ⟨rfl, hb.out⟩
end
end Go.Proofs.Ytghihdenbdnnjaa.Ln
