import Derived.Test.YtbjpbcanmpimnaaTake
import Derived.Laws.OwnMore
import Derived.Laws.CopyOwn
namespace Go.Proofs.Ytbjpbcanmpimnaa.Wk
open Go.RowKit
set_option linter.unusedVariables false

theorem info5 : (Try.prog.info? 5).map (fun i => (i.zero, i.size, i.bytes)) = some (some (.int .u8 0), 1, 1) := by kernel_rfl
theorem info3 : (Try.prog.info? 3).map (fun i => (i.zero, i.size, i.bytes)) = some (some (.int .i64 0), 1, 8) := by kernel_rfl

def Own (w : World) (base : Nat) (v : Value) (bs : List Int) : Prop := w.ownsRow base 5 1 v bs.length (bs.map (Value.int .u8))

def Apart (w : World) (base cb : Nat) : Prop := cb < w.heap.size ∧ (cb < base ∨ ∃ arr fz, w.heap[cb]? = some (.cells arr 3 fz))

theorem Apart.ne {w : World} {base cb : Nat} {v : Value} {bs : List Int} (h : Apart w base cb) (ho : Own w base v bs) : some cb ≠ v.ownBlock := by
  intro e
  have hlt := ho.lt cb e.symm
  rcases ho.2 with ⟨rfl, _⟩ | ⟨g, cap, cur, rfl, hb, hg, _⟩
  · simp [Value.ownBlock] at e
  · simp [Value.ownBlock] at e
    subst e
    rcases h.2 with h | ⟨arr, fz, h⟩
    · omega
    · rw [hg] at h; simp at h

theorem Own.alloc {w : World} {base : Nat} {v : Value} {bs : List Int} (h : Own w base v bs) (o : Obj) : Own (w.alloc o) base v bs := World.ownsRow.alloc h o

theorem put_step (f : Nat) (u : Int) (h0 : 0 ≤ u) (h : u < 128 ^ (f + 1)) (h1 : 128 ≤ u) : ∃ f', f = f' + 1 ∧ Wm.put f u = (u % 128 + 128) :: Wm.put f' (u / 128) ∧ 0 ≤ u / 128 ∧ u / 128 < 128 ^ (f' + 1) := by
  cases f with
  | zero => simp at h; omega
  | succ f' => exact ⟨f', rfl, by simp only [Wm.put]; rw [if_neg (by omega)], by omega, by rw [Int.pow_succ] at h; omega⟩

theorem put_last (f : Nat) (u : Int) (h1 : u < 128) : Wm.put f u = [u] := by
  cases f with
  | zero => rfl
  | succ f' => simp only [Wm.put]; rw [if_pos h1]

theorem own_push {w' : World} {base : Nat} {v' : Value} {bs done : List Int} {c : Int} (h : w'.ownsRow base 5 1 v' (bs.length + done.length + 1) (bs.map (Value.int .u8) ++ (done.map (Value.int .u8) ++ [.int .u8 c]))) : Own w' base v' (bs ++ (done ++ [c])) := by
  unfold Own; simpa [Nat.add_assoc] using h

theorem put_more {p done r q : List Int} {x : Int} (h : p = done ++ q) (hq : q = x :: r) : p = (done ++ [x]) ++ r := by
  rw [h, hq]; simp

theorem below_push {w wr w' : World} {base : Nat} {v : Value} {bs : List Int} {o : Obj} (hbel : Below base w wr) (hb : base ≤ wr.heap.size) (ho : Own wr base v bs) (hg : (wr.alloc o).grownBy w' v.ownBlock) : Below base w w' :=
  (hbel.alloc hb o).grown hg (by simp; omega) (fun k hk => (ho.lt k hk).1)

set_option maxHeartbeats 1000000 in
theorem counts_one (base : Nat) (v : Value) (bs : List Int) (cb : Nat) (n : Int) (w : World)
    (hown : Own w base v bs) (hb : base ≤ w.heap.size) (hcell : w.cell? ⟨cb, 0, none⟩ = some (.int .i64 n)) (h0 : 0 ≤ n) (h1 : n ≤ 4611686018427387904) (hroom : bs.length + 9 ≤ 140737488355328) :
    Calls Try.prog 21 #[v, .slice (some ⟨cb, 0, none⟩) 1 1] w fun e w' => ∃ v', e = .returned v' ∧ Own w' base v' (bs ++ Wm.put 8 n) ∧ Below base w w' := by
  obtain ⟨i0, hi, hz0, hz1, hz2⟩ := info_parts info5
  go_enter Try.func21, Try.ntmps21
  go_wp2
  refine wp_loop_rounds 2 ?_
  rw [rounds_succ]
  go_wp2
  go_loopw [0, 6] (fun vb x wr => ∃ (done : List Int) (f : Nat) (u : Int), x = .int .i64 u ∧ 0 ≤ u ∧ Hid (u < 128 ^ (f + 1)) ∧ u ≤ 4611686018427387904 ∧ done.length + f ≤ 8 ∧ Hid (Wm.put 8 n = done ++ Wm.put f u) ∧ Own wr base vb (bs ++ done) ∧ Below base w wr) (fun _ x _ => (intOf x).toNat)
  case atStart => exact ⟨[], 8, n, rfl, h0, show n < 128 ^ (8 + 1) by simp; omega, h1, by simp, rfl, by simpa using hown, Below.refl _ _⟩
  case round =>
    obtain ⟨done, f, u, rfl, hu0, huf, hum, hdf, hput, ho, hbel⟩ := hrel
    by_cases h128 : 128 ≤ u
    · go_wp2_with (first
        | (at_builtin; refine wpList_append_own _ rfl _ _ 23 rfl base 5 i0 (.int .u8 0) 1 1 Try.underlying23 hi hz0 hz1 hz2 rfl (by decide) _ _ _ rfl (ho.alloc _) ⟨wr.heap.size, 0, none⟩ 1 1 [.int .u8 (u % 128 + 128)] rfl rfl ?c1 ?c2 ?c3 ?c4 ?c5 ?_)
        | go_in)
      case c1 => exact cell_one_new _ _ _
      case c2 => intro x hx; simp at hx; subst hx; rfl
      case c3 => simp; unfold maxLen; omega
      case c4 => simp; omega
      case c5 => have := hbel.size; simp; omega
      intro v' w1 hown' hgrow _
      have HO : Hid (Own w1 base v' (bs ++ (done ++ [u % 128 + 128]))) := own_push hown'
      have HB : Hid (Below base w w1) := below_push hbel (by have := hbel.size; omega) ho hgrow
      obtain ⟨f', rfl, hpf, hq0, hqf⟩ := put_step f u hu0 huf h128
      have HP : Hid (Wm.put 8 n = (done ++ [u % 128 + 128]) ++ Wm.put f' (u / 128)) := put_more hput.out hpf
      have HF : Hid (u / 128 < 128 ^ (f' + 1)) := hqf
      clear hpf hqf hown' hgrow ho hbel
      go_wp2
      go_roundw
      case rel => exact ⟨done ++ [u % 128 + 128], f', u / 128, by go_num, by omega, HF, by omega, by simp; omega, HP, HO, HB⟩
      case measure => simp [intOf]; omega
    · have HP : Hid (Wm.put 8 n = done ++ [u]) := by rw [hput.out, put_last f u (by omega)]; rfl
      go_wp2_with (first
        | (at_builtin; refine wpList_append_own _ rfl _ _ 23 rfl base 5 i0 (.int .u8 0) 1 1 Try.underlying23 hi hz0 hz1 hz2 rfl (by decide) _ _ _ rfl (ho.alloc _) ⟨wr.heap.size, 0, none⟩ 1 1 [.int .u8 u] rfl rfl ?d1 ?d2 ?d3 ?d4 ?d5 ?_)
        | go_in)
      case d2 => rfl
      case d3 => unfold maxLen; omega
      case d4 => omega
      case d5 => have := hbel.size; omega
      intro v' w1 hown' hgrow _
      have HO : Hid (Own w1 base v' (bs ++ (done ++ [u]))) := own_push hown'
      have HB : Hid (Below base w w1) := below_push hbel (by have := hbel.size; omega) ho hgrow
      clear hown' hgrow ho hbel
      go_wp2
      rw [rounds_succ]
      go_wp2
      go_ret
      exact ⟨_, rfl, by rw [HP.out]; exact HO, HB⟩

theorem wpList_make_cap {P : Program} (w : World) {ops : Array Oper} {rest : List Oper} {o : Oper} {a : Act} {Q : Exit → Act → World → Prop}
    (hg : o.guard = none) (l c : Operand) (t : TypeId) (hop : o.op = Op.makeSlice t l c)
    (e : TypeId) (i : TypeInfo) (z : Value) (h1 : P.underlying t = some (.slice e)) (h2 : P.info? e = some i) (h3 : i.zero = some z) (h4 : i.size = 1) (h5 : z.cells = #[z]) (bytes : Nat) (h6 : i.bytes = bytes)
    (kl kc : IntKind) (L C : Int) (n m : Nat) (hl : a.eval l = .int kl L) (hc : a.eval c = .int kc C) (hL : L = (n : Int)) (hC : C = (m : Int)) (hnm : n ≤ m) (b2 : bytes * m ≤ 281474976710656) (b3 : m ≤ 9223372036854775807)
    (hK : ∀ w', Hid (w'.heap[w.heap.size]? = some (.cells (List.replicate m z).toArray e (0, 0))) → w'.heap.size = w.heap.size + 1 → Below w.heap.size w w' → wpList P ops Q rest (a.put o.dst (.slice (some ⟨w.heap.size, 0, none⟩) n m)) w') :
    wpList P ops Q (o :: rest) a w := by
  refine wpList_plain hg fun K hK' => ?_
  subst h6
  have hrun := run_make (P := P) w t e i z h1 h2 h3 kl kc L C (by omega) (by omega) (by rw [hC, show (i.bytes : Int) * (m : Int) = ((i.bytes * m : Nat) : Int) from by push_cast; rfl]; omega) (by omega)
  have hm : madeCells z.cells (C.toNat * i.size) = (List.replicate m z).toArray := by
    rw [h5, h4, hC]
    simp only [Int.toNat_natCast, Nat.mul_one]
    rw [← toList_madeCells_one, Array.toArray_toList]
  rw [hm] at hrun
  have hLn : L.toNat = n := by omega
  have hCn : C.toNat = m := by omega
  rw [hLn, hCn] at hrun
  unfold Oper.wp
  simp [execOp, hop, hl, hc, hrun, Result.andThen]
  exact hK' _ _ (hK _ (heap_alloc_new w _) (by simp) ((Below.refl _ _).alloc (Nat.le_refl _) _))

theorem own_copied {w : World} {g : Nat} {bs : List Int} {c : Nat} (hc : bs.length ≤ c) (hm : c ≤ maxLen) (h : w.heap[g]? = some (.cells (splice (List.replicate c (Value.int .u8 0)) 0 (bs.map (Value.int .u8))).toArray 5 (0, 0))) :
    Own w g (.slice (some ⟨g, 0, none⟩) bs.length c) bs := by
  refine ⟨by simp, .inr ⟨g, c, _, rfl, Nat.le_refl _, h, hc, hm, ?_, ?_⟩⟩
  · simp [splice]; omega
  · simp [splice]

theorem src_cells {w w1 : World} {ao : Option Addr} {len : Nat} {bs : List Int} (hl : bs.length = len) (hc : len = 0 ∨ ∃ b off, ao = some ⟨b, off, none⟩ ∧ ∀ i, i < len → w.cell? ⟨b, off + i, none⟩ = some (.int .u8 (bs.getD i 0)))
    (hbel : Below w.heap.size w w1) (h0 : 0 < len) : ∃ ad, ao = some ad ∧ ∀ j v, (bs.map (Value.int .u8))[j]? = some v → w1.cell? (ad.add j) = some v := by
  rcases hc with h | ⟨b, off, rfl, hc⟩
  · omega
  · refine ⟨_, rfl, fun j v hv => ?_⟩
    have hj : j < len := by have := (List.getElem?_eq_some_iff.1 hv).1; simpa [hl] using this
    have hcj := hc j hj
    rw [Addr.add_lit, hbel.cell (World.block_lt_of_cell? w _ hcj), hcj]
    have e : (bs.map (Value.int .u8))[j]? = some (.int .u8 (bs.getD j 0)) := by simp [List.getD, show j < bs.length by omega]
    rw [e] at hv
    exact hv

theorem within_yes (v lo hi : Int) (w : World) (h1 : lo ≤ v) (h2 : v ≤ hi) : Calls Try.prog 20 #[.int .i64 v, .int .i64 lo, .int .i64 hi] w fun e w' => e = .returned (.bool true) ∧ w = w' := by
  go_enter Try.func20, Try.ntmps20
  go_wp2
  go_ret
  exact ⟨rfl, rfl⟩

theorem within_no (v lo hi : Int) (w : World) (h : ¬ (lo ≤ v ∧ v ≤ hi)) : Calls Try.prog 20 #[.int .i64 v, .int .i64 lo, .int .i64 hi] w fun e w' => e = .returned (.bool false) ∧ w = w' := by
  by_cases h1 : lo ≤ v
  · have h2 : decide (v ≤ hi) = false := by simp; omega
    clear h
    go_enter Try.func20, Try.ntmps20
    go_wp2
    go_ret
    exact ⟨rfl, rfl⟩
  · have h2 : decide (lo ≤ v) = false := by simp; omega
    clear h
    go_enter Try.func20, Try.ntmps20
    go_wp2
    go_ret
    exact ⟨rfl, rfl⟩

set_option maxHeartbeats 1000000 in
theorem putInt_any (ao : Option Addr) (len cap : Nat) (bs : List Int) (n : Int) (w : World) (hr : Rd w ao len bs) (hlen : len ≤ 140737488355300) :
    Calls Try.prog 7 #[.slice ao len cap, .int .i64 n] w fun e w' => (¬ (0 ≤ n ∧ n ≤ 4611686018427387904) ∧ e = .returned (.tuple #[.slice none 0 0, .int .i64 1]) ∧ w' = w) ∨
      ((0 ≤ n ∧ n ≤ 4611686018427387904) ∧ ∃ v', e = .returned (.tuple #[v', .int .i64 0]) ∧ Own w' w.heap.size v' (bs ++ Wm.put 8 n) ∧ Below w.heap.size w w') := by
  obtain ⟨rfl, hc, hb⟩ := hr
  by_cases hn : 0 ≤ n ∧ n ≤ 4611686018427387904
  · obtain ⟨h0, h1⟩ := hn
    obtain ⟨i0, hi, hz0, hz1, hz2⟩ := info_parts info5
    have hs1 : (Try.prog.info? 5).map (·.size) = some 1 := by rw [hi]; simp [hz1]
    obtain ⟨CS, hCS⟩ : ∃ CS, CS = bs.map (Value.int .u8) := ⟨_, rfl⟩
    have hCl : CS.length = bs.length := by rw [hCS]; simp
    have h1c : ∀ v ∈ CS, v.oneCell' = true := by rw [hCS]; exact ints_oneCell _ _
    have HCS : Hid (CS = bs.map (Value.int .u8)) := hCS
    have hpos : Hid (∀ w1, Below w.heap.size w w1 → 0 < CS.length → (∃ ad, ao = some ad ∧ ∀ j v, CS[j]? = some v → w1.cell? (ad.add j) = some v)) := by
      intro w1 hb1 h0; rw [hCS]; exact src_cells rfl hc hb1 (by omega)
    have hmin : CS.length = Nat.min bs.length bs.length := by rw [hCl]; exact (Nat.min_self _).symm
    have hfit : 0 + CS.length ≤ (List.replicate (bs.length + 9) (Value.int .u8 0)).length := by simp; omega
    have Hmin : Hid (CS.length = Nat.min bs.length bs.length) := hmin
    have Hfit : Hid (0 + CS.length ≤ (List.replicate (bs.length + 9) (Value.int .u8 0)).length) := hfit
    have H1c : Hid (∀ v ∈ CS, v.oneCell' = true) := h1c
    have Hs1 : Hid ((Try.prog.info? 5).map (·.size) = some 1) := hs1
    clear hCS hmin hfit h1c hs1 hCl hc hb
    go_enter Try.func7, Try.ntmps7
    go_wp2_with (first
      | (at_make; refine wpList_make_cap _ rfl _ _ 23 rfl 5 i0 (.int .u8 0) Try.underlying23 hi hz0 hz1 rfl 1 hz2 _ _ _ _ bs.length (bs.length + 9) rfl rfl rfl (by omega) (by omega) (by omega) (by omega) ?_; intro w1 hg1 hsz1 hbel1)
      | (refine wpList_copy_splice rfl (.tmp 16) (.tmp 17) 23 23 rfl 5 Try.underlying23 Hs1.out _ _ _ _ _ _ rfl rfl w.heap.size 0 (List.replicate (bs.length + 9) (Value.int .u8 0)) 5 hg1.out CS Hmin.out (fun h => ⟨rfl, hpos.out w1 hbel1 h⟩) Hfit.out H1c.out w.heap.size w hbel1 (Nat.le_refl _) ?_; intro w2 hg2 hbel2)
      | (go_at_call 20; refine (within_yes _ _ _ _ h0 h1).mono ?_; rintro e w' ⟨rfl, rfl⟩)
      | (go_at_call 21; refine (counts_one w.heap.size _ bs _ n _ (Own.alloc (own_copied (by omega) (by unfold maxLen; omega) (by rw [← HCS.out]; exact hg2.out)) _) (by have := hbel2.size; simp; omega) (by simp) h0 h1 (by omega)).mono ?_; rintro e w3 ⟨v', rfl, hown3, hbel3⟩)
      | fail)
    go_ret2
    exact .inr ⟨⟨h0, h1⟩, v', rfl, hown3, (hbel2.alloc (by have := hbel2.size; omega) _).trans hbel3⟩
  · have hn' := hn
    clear hc hb
    go_enter Try.func7, Try.ntmps7
    go_wp2_with (first
      | (go_at_call 20; refine (within_no _ _ _ _ hn).mono ?_; rintro e w' ⟨rfl, rfl⟩)
      | fail)
    go_ret2
    exact .inl ⟨hn, rfl, rfl⟩
end Go.Proofs.Ytbjpbcanmpimnaa.Wk
