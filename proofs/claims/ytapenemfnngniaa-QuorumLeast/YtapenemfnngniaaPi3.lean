import Derived.Test.YtapenemfnngniaaPh3
import Derived.Test.YtapenemfnngniaaPg3
namespace Go.Proofs.Ytapenemfnngniaa.Qm
open Go.RowKit Mb
set_option linter.unusedVariables false
set_option maxRecDepth 100000
set_option linter.unusedSimpArgs false
theorem listN_ext {s n : Nat} (hs : s < 2 ^ n) : ∀ k, listN s (n + k) = listN s n
  | 0 => rfl
  | k + 1 => by
      rw [← Nat.add_assoc]
      simp only [listN]
      have : s.testBit (n + k) = false := Nat.testBit_lt_two_pow (Nat.lt_of_lt_of_le hs (Nat.pow_le_pow_right (by decide) (by omega)))
      rw [this]
      simp [listN_ext hs k]
theorem listN_of {s n m : Nat} (hs : s < 2 ^ n) (hm : n ≤ m) : listN s m = listN s n := by
  obtain ⟨k, rfl⟩ := Nat.exists_eq_add_of_le hm
  exact listN_ext hs k
section
variable {w w' W : World} {B : Nat}
theorem own_made (w : World) (c : Nat) (hc : c ≤ 1000) (h : w.heap[B]? = some (.cells (List.replicate c (Value.int .i64 0)).toArray 3 (0, 0))) : w.ownsRow B 3 1 (.slice (some ⟨B, 0, none⟩) 0 c) 0 (ints []) :=
  ⟨rfl, .inr ⟨B, c, _, rfl, Nat.le_refl _, h, Nat.zero_le _, by unfold maxLen; omega, by simp, by simp [ints]⟩⟩
set_option maxHeartbeats 2000000 in
theorem slist_any (s n : Nat) (hn : n ≤ 16) (hs : s < 2 ^ n) : Calls Try.prog 36 #[.int .u64 (s : Int)] w fun e w' => ∃ v, e = .returned v ∧ w'.ownsRow w.heap.size 3 1 v (listN s n).length (ints (zi (listN s n))) ∧ Below w.heap.size w w' := by
  have h2 := two_pow_le n hn
  have hs16 : s < 65536 := by omega
  obtain ⟨i0, hi, hz0, hz1, hz2⟩ := int_info
  have hsz : size s 16 ≤ 16 := by
    have : ∀ k, size s k ≤ k := fun k => by
      induction k with
      | zero => simp [size]
      | succ k ih => simp only [size]; split <;> omega
    exact this 16
  have HSz : Hid (Calls Try.prog 43 #[.int .u64 (s : Int)] w fun e w' => e = .returned (.int .i64 ((size s 16 : Nat) : Int)) ∧ w = w') := size_any s hs16
  have HEn : Hid (∀ V : World, Calls Try.prog 51 #[.int .u64 (s : Int)] V fun e w' => e = .returned (.int .i64 (Lib.bitLen s)) ∧ V = w') := fun V => end_any s hs16
  have HHs : Hid (∀ (V : World) (p : Nat), p < 16 → Calls Try.prog 49 #[.int .u64 (s : Int), .int .i64 (p : Int)] V fun e w' => e = .returned (.bool (s.testBit p)) ∧ V = w') := fun V p hp => has_any s p hs16 hp
  have hbl := len_le hn hs
  have HFin : Hid (listN s (Lib.bitLen s) = listN s n) := by
    show _ = _
    exact (listN_of (lt_len hs16) hbl).symm
  obtain ⟨c, hc⟩ : ∃ c, size s 16 = c := ⟨_, rfl⟩
  obtain ⟨b, hb⟩ : ∃ b, Lib.bitLen s = b := ⟨_, rfl⟩
  rw [hc] at HSz hsz
  rw [hb] at HEn hbl HFin
  clear hc hb
  go_enter Try.func36, Try.ntmps36
  go_wp2_with (fail)
  refine HSz.out.mono ?_
  rintro e w1 ⟨rfl, rfl⟩
  go_wp2_with (first
    | (at_make; refine wpList_make_cap _ rfl _ _ 22 rfl 3 i0 (.int .i64 0) Try.underlying22 hi hz0 hz1 rfl 8 hz2 .i64 .i64 _ _ 0 c rfl rfl rfl rfl (by omega) (by omega) (by omega) ?_)
    | fail)
  intro W1 hW hWs hWb
  have HO0 : Hid (W1.ownsRow w.heap.size 3 1 (.slice (some ⟨w.heap.size, 0, none⟩) 0 c) 0 (ints [])) := own_made W1 c (by omega) hW.out
  have HB0 : Hid (Below w.heap.size w W1) := hWb
  clear hW hWs hWb
  go_wp2_with (fail)
  refine (HEn.out W1).mono ?_
  rintro e w2 ⟨rfl, rfl⟩
  go_wp2_with (fail)
  go_loopw [3, 4, 10] (fun a p i wr => ∃ k : Nat, k ≤ b ∧ i = .int .i64 (k : Int) ∧ Hid (wr.ownsRow w.heap.size 3 1 a (listN s k).length (ints (zi (listN s k))) ∧ Below w.heap.size w wr)) (fun _ _ i _ => b - (intOf i).toNat)
  case atStart => exact ⟨0, Nat.zero_le _, rfl, HO0.out, HB0.out⟩
  case round =>
    obtain ⟨k, hk, rfl, HI⟩ := hrel
    by_cases hlt : k < b
    · have i2 : (k : Int) < (b : Int) := by omega
      have hle := listN_len s k
      have HHk := HHs.out wr k (by omega)
      cases hbt : s.testBit k with
      | true =>
        rw [hbt] at HHk
        have HL : Hid (listN s (k + 1) = listN s k ++ [k]) := (show _ = _ from by simp [listN, hbt])
        generalize listN s k = L at *
        go_wp2_with (fail)
        refine HHk.mono ?_
        rintro e w2 ⟨rfl, rfl⟩
        go_wp2_with (first
          | (at_builtin; refine app_i (w0 := w) rfl _ _ rfl _ L.length (zi L) rfl (HI.out.1.alloc _) (balloc HI.out.2) _ 1 1 [(k : Int)] rfl (Rw.rd (blk_one _) rfl (Nat.le_refl _)) (by omega) ?_; intro a2 w2 HO2 HB2)
          | fail)
        refine ⟨⟨k + 1, by omega, by go_num, ?_⟩, by simp [intOf]; omega⟩
        have h1 := HO2.out
        have h2 := HB2.out
        rw [HL.out]
        refine ⟨?_, h2⟩
        rw [zi_snoc, List.length_append]
        exact h1
      | false =>
        rw [hbt] at HHk
        have HL : Hid (listN s (k + 1) = listN s k) := (show _ = _ from by simp [listN, hbt])
        generalize listN s k = L at *
        go_wp2_with (fail)
        refine HHk.mono ?_
        rintro e w2 ⟨rfl, rfl⟩
        go_wp2_with (fail)
        refine ⟨⟨k + 1, by omega, by go_num, ?_⟩, by simp [intOf]; omega⟩
        rw [HL.out]
        exact HI
    · have i2 : ¬ (k : Int) < (b : Int) := by omega
      obtain rfl : k = b := by omega
      go_wp2
      go_ret
      exact ⟨_, rfl, by rw [← HFin.out]; exact HI.out.1, HI.out.2⟩
theorem iss_info : ∃ i : TypeInfo, Try.prog.info? 22 = some i ∧ i.zero = some (.slice none 0 0) ∧ i.size = 1 ∧ i.bytes = 24 := by
  have h : (Try.prog.info? 22).map (fun i => (i.zero, i.size, i.bytes)) = some (some (.slice none 0 0), 1, 24) := by kernel_rfl
  cases hi : Try.prog.info? 22 with
  | none => rw [hi] at h; cases h
  | some i =>
    rw [hi] at h
    simp only [Option.map_some, Option.some.injEq, Prod.mk.injEq] at h
    exact ⟨i, rfl, h.1, h.2.1, h.2.2⟩
structure El where
  a : Option Addr
  n : Nat
  c : Nat
  s : Nat
def El.v (e : El) : Value := .slice e.a e.n e.c
def el0 : El := ⟨none, 0, 0, 0⟩
structure Ll (w : World) (base n : Nat) (v : Value) (E : List El) : Prop where
  row : w.ownsRow base 22 1 v E.length (E.map El.v)
  el : ∀ e ∈ E, w.ownsRow base 3 1 e.v (listN e.s n).length (ints (zi (listN e.s n)))
theorem own_type {t s n : Nat} {v : Value} {l : List Value} {g : Nat} (h : w.ownsRow B t s v n l) (hg : v.ownBlock = some g) : ∃ cur, w.heap[g]? = some (.cells cur t (0, 0)) := by
  rcases h.2 with ⟨h1, h2⟩ | ⟨g', cap, cur, hv, hB, hh, _⟩
  · rw [h1] at hg; cases hg
  · rw [hv] at hg
    simp only [Value.ownBlock, Option.some.injEq] at hg
    exact ⟨cur, hg ▸ hh⟩
theorem ty_ne {a b t t' : Nat} {C C' : Array Value} (h : w.heap[a]? = some (.cells C t (0, 0))) (h' : w.heap[b]? = some (.cells C' t' (0, 0))) (ht : t ≠ t') : a ≠ b := by
  intro e
  subst e
  rw [h] at h'
  simp only [Option.some.injEq, Obj.cells.injEq] at h'
  exact ht h'.2.1
theorem own_keepT {P : Nat → Prop} {t s n : Nat} {v : Value} {l : List Value} (h : w.ownsRow B t s v n l) (k : Kept w w' P) (hp : ∀ g cur, w.heap[g]? = some (.cells cur t (0, 0)) → ¬ P g) : w'.ownsRow B t s v n l :=
  k.owns h fun g hg => by
    obtain ⟨cur, hc⟩ := own_type h hg
    exact hp g cur hc
theorem Ll.still {base n : Nat} {v : Value} {E : List El} (h : Ll w base n v E) (hb : Below w.heap.size w w') : Ll w' base n v E := ⟨own_still h.row hb, fun e he => own_still (h.el e he) hb⟩
theorem own_some {B t s n : Nat} {v : Value} {l : List Value} (h : w.ownsRow B t s v n l) (hn : n ≠ 0) : ∃ g c, v = .slice (some ⟨g, 0, none⟩) n c := by
  rcases h.2 with ⟨h1, h2⟩ | ⟨g, cap, cur, hv, _⟩
  · exact absurd h2 hn
  · exact ⟨g, cap, hv⟩
theorem app_ll {w0 : World} {ops : Array Oper} {rest : List Oper} {o : Oper} {a : Act} {Q : Exit → Act → World → Prop} (hgd : o.guard = none) (s x : Operand)
    (ho : o.op = .call { callee := .builtin .append, args := #[s, x], argTypes := #[32, 32] })
    (v : Value) {n : Nat} (E : List El) (hs : a.eval s = v) (hown : Ll w w0.heap.size n v E) (hb : Below w0.heap.size w0 w)
    (g : Nat) (e : El) (hx : a.eval x = .slice (some ⟨g, 0, none⟩) 1 1) (hg : w.heap[g]? = some (.cells #[e.v] 22 (0, 0))) (he : w.ownsRow w0.heap.size 3 1 e.v (listN e.s n).length (ints (zi (listN e.s n)))) (hn : E.length ≤ 100000)
    (h : ∀ v' w', Hid (Ll w' w0.heap.size n v' (E ++ [e])) → Hid (Below w0.heap.size w0 w') → Hid (Kept w w' (fun j => some j = v.ownBlock)) → wpList Try.prog ops Q rest (a.put o.dst v') w') : wpList Try.prog ops Q (o :: rest) a w := by
  obtain ⟨i0, hi, hz0, hz1, hz2⟩ := iss_info
  refine wpList_append_own w hgd s x 32 ho w0.heap.size 22 i0 (.slice none 0 0) 1 24 Try.underlying32 hi hz0 hz1 hz2 (by rfl) (by decide) v E.length (E.map El.v) hs hown.row ⟨g, 0, none⟩ 1 1 [e.v] hx rfl (fun j u hu => by
    rw [Addr.add_lit, Nat.zero_add, blk_cell hg]
    match j, hu with
    | 0, hu => exact hu
    | j + 1, hu => simp at hu) (by intro u hu; rw [List.mem_singleton.1 hu]; rfl) (by unfold maxLen; omega) (by omega) hb.size ?_
  intro v' w' h2 h3 _
  have k := Kept.ofGrown h3
  have hk : ∀ g2 cur, w.heap[g2]? = some (.cells cur 3 (0, 0)) → ¬ some g2 = v.ownBlock := fun g2 cur hg2 e2 => by
    obtain ⟨c3, h4⟩ := own_type hown.row e2.symm
    exact ty_ne hg2 h4 (by decide) rfl
  refine h v' w' ⟨by simpa using h2, fun e2 he2 => ?_⟩ (hb.grown h3 hb.size (fun q hq => (World.ownsRow.lt hown.row q hq).1)) k
  rcases List.mem_append.1 he2 with h5 | h5
  · exact own_keepT (hown.el e2 h5) k hk
  · rw [List.mem_singleton.1 h5]
    exact own_keepT he k hk
end
end Go.Proofs.Ytapenemfnngniaa.Qm
