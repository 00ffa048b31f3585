import Derived.Test.YtjgjpepmfiklfaaGreatDoorRows
import Derived.WalkKit
import Derived.WalkLawsBesides
import Derived.WalkSpells
import Derived.Outline
import Derived.Below
import Derived.BigQuiet
import Derived.Deep.QuietTactic
import Derived.Laws.OwnMore
import Derived.Laws.AppendOwnNone
namespace Go.Proofs.YtjgjpepmfiklfaaGreatDoor.Lo
open Go.RowKit
set_option linter.unusedVariables false

def pat (id k : Int) : Int := bits .xor .u8 ((id + 1) * 2654435761 % 4294967296 / 2 ^ (8 * (k % 4)).toNat % 256) (k / 4 % 256)
theorem u8_range (op : BinOp) (x y : Int) : 0 ≤ bits op .u8 x y ∧ bits op .u8 x y ≤ 255 := by
  unfold bits
  simp only [IntKind.wrap, IntKind.bits, IntKind.signed]
  simp
  omega
theorem pat_range (id k : Int) : 0 ≤ pat id k ∧ pat id k ≤ 255 := u8_range _ _ _

set_option maxRecDepth 100000 in
set_option maxHeartbeats 400000 in
theorem pat_any (id k : Int) (w : World) (h0 : 0 ≤ id) (h1 : id ≤ 10000000) (h2 : 0 ≤ k) (h3 : k ≤ 281474976710656) :
    Calls Tryz.prog 33 #[.int .i64 id, .int .i64 k] w fun e w' => e = .returned (.int .u8 (pat id k)) ∧ w = w' := by
  have hk0 : 0 ≤ 8 * (k % 4) := by omega
  have hk1 : 8 * (k % 4) ≤ 24 := by omega
  go_enter Tryz.func33, Tryz.ntmps33
  go_wp2
  go_ret
  exact ⟨rfl, rfl⟩

theorem pat_same (id k : Int) (w : World) (h0 : 0 ≤ id) (h1 : id ≤ 10000000) (h2 : 0 ≤ k) (h3 : k ≤ 281474976710656) :
    Calls Tryz.prog 33 #[.int .i64 id, .int .i64 k] w fun e w' => e = .returned (.int .u8 (pat id k)) ∧ w' = w :=
  (pat_any id k w h0 h1 h2 h3).mono fun e w' h => ⟨h.1, h.2.symm⟩

def Rd (w : World) (ao : Option Addr) (len cap : Nat) (bs : List Int) : Prop :=
  bs.length = len ∧ (ao = none → len = 0 ∧ cap = 0) ∧ (len = 0 ∨ ∃ b off, ao = some ⟨b, off, none⟩ ∧ ∀ i, i < len → w.cell? ⟨b, off + i, none⟩ = some (.int .u8 (bs.getD i 0))) ∧ ∀ i, 0 ≤ bs.getD i 0 ∧ bs.getD i 0 ≤ 255

theorem info_u8 : (Tryz.prog.info? 5).map (fun i => (i.zero, i.size, i.bytes)) = some (some (.int .u8 0), 1, 1) := by kernel_rfl

def Own (w : World) (base : Nat) (v : Value) (bs : List Int) : Prop := w.ownsRow base 5 1 v bs.length (bs.map (Value.int .u8))
theorem Own.alloc {w : World} {base : Nat} {v : Value} {bs : List Int} (h : Own w base v bs) (o : Obj) : Own (w.alloc o) base v bs := World.ownsRow.alloc h o

theorem Rd.cells {w w1 : World} {ao : Option Addr} {len cap : Nat} {bs : List Int} (h : Rd w ao len cap bs) (hbel : Below w.heap.size w w1) (a : Addr) (ha : ao = some a) : ∀ j v, (bs.map (Value.int .u8))[j]? = some v → w1.cell? (a.add j) = some v := by
  intro j v hv
  obtain ⟨hl, _, hc, _⟩ := h
  have hj : j < len := by have := (List.getElem?_eq_some_iff.1 hv).1; simpa [hl] using this
  rcases hc with h | ⟨b, off, hao, hc⟩
  · omega
  · rw [ha] at hao
    obtain rfl := Option.some.inj hao
    have hcj := hc j hj
    rw [Addr.add_lit, hbel.cell (World.block_lt_of_cell? w _ hcj), hcj]
    have e : (bs.map (Value.int .u8))[j]? = some (.int .u8 (bs.getD j 0)) := by simp [List.getD, show j < bs.length by omega]
    rw [e] at hv
    exact hv

theorem bytes_oneCell (bs : List Int) : ∀ u ∈ bs.map (Value.int .u8), u.oneCell' = true := by
  intro u hu
  obtain ⟨_, _, rfl⟩ := List.mem_map.1 hu
  rfl

theorem wpList_append_rd {P : Program} (w : World) {ops : Array Oper} {rest : List Oper} {o : Oper} {a : Act} {Q : Exit → Act → World → Prop} (hgd : o.guard = none) (s x : Operand) (t : TypeId)
    (ho : o.op = .call { callee := .builtin .append, args := #[s, x], argTypes := #[t, t] })
    (base : Nat) (e : TypeId) (i : TypeInfo) (z : Value) (bytes : Nat) (ht : P.underlying t = some (.slice e)) (hi : P.info? e = some i) (hz : i.zero = some z)
    (hsize : i.size = 1) (hby : i.bytes = bytes) (hzs : z.cells.size = 1)
    (v : Value) (n : Nat) (xs : List Value) (hs : a.eval s = v) (hown : w.ownsRow base e 1 v n xs)
    (ao : Option Addr) (m c : Nat) (news : List Value) (hx : a.eval x = .slice ao m c) (hnone : ao = none → m = 0 ∧ c = 0) (hl : news.length = m) (hnews : ∀ ad, ao = some ad → ∀ j u, news[j]? = some u → w.cell? (ad.add j) = some u) (h1 : ∀ u ∈ news, u.oneCell' = true)
    (h63 : n + m ≤ maxLen) (hbytes : (n + m) * bytes ≤ 140737488355328) (hbase : base ≤ w.heap.size)
    (h : ∀ v' w', w'.ownsRow base e 1 v' (n + m) (xs ++ news) → w.grownBy w' v.ownBlock → wpList P ops Q rest (a.put o.dst v') w') : wpList P ops Q (o :: rest) a w := by
  cases ao with
  | some ad => exact wpList_append_own w hgd s x t ho base e i z 1 bytes ht hi hz hsize hby hzs (by decide) v n xs hs hown ad m c news hx (by omega) (hnews ad rfl) h1 h63 hbytes hbase fun v' w' h2 h3 _ => h v' w' h2 h3
  | none =>
    obtain ⟨rfl, rfl⟩ := hnone rfl
    obtain rfl : news = [] := List.eq_nil_of_length_eq_zero hl
    exact wpList_append_own_none hgd s x t ho base e i 1 ht hi v n xs hs hown hx (h v w (by simpa using hown) (World.grownBy.refl _ _))

theorem own_empty (w : World) : Own (w.alloc (.cells #[] 5)) w.heap.size (.slice (some ⟨w.heap.size, 0, none⟩) 0 0) [] :=
  World.ownsRow_made w #[] 0 (Nat.le_refl _) (Nat.zero_le _) rfl

theorem own_copy {w1 : World} {base n : Nat} {v : Value} {bs : List Int} (hn : bs.length = n) (h : w1.ownsRow base 5 1 v n (bs.map (Value.int .u8))) : Own w1 base v bs := by
  subst hn; exact h

set_option maxRecDepth 100000 in
set_option maxHeartbeats 400000 in
theorem copied_any (ao : Option Addr) (len cap : Nat) (bs : List Int) (w : World) (hr : Rd w ao len cap bs) (hlen : len ≤ 140737488355328) :
    Calls Tryz.prog 9 #[.slice ao len cap] w fun e w' => ∃ v', e = .returned v' ∧ Own w' w.heap.size v' bs ∧ Below w.heap.size w w' := by
  obtain ⟨i0, hi, hz0, hz1, hz2⟩ := info_parts info_u8
  have hb1 : Hid (Below w.heap.size w (w.alloc (.cells #[] 5))) := (Below.refl _ _).alloc (Nat.le_refl _) _
  have hlb := hr.1
  have Hr : Hid (Rd w ao len cap bs) := hr
  clear hr
  go_enter Tryz.func9, Tryz.ntmps9
  go_wp2_with (first
    | (at_builtin; refine wpList_append_rd _ rfl _ _ 24 rfl w.heap.size 5 i0 (.int .u8 0) 1 Tryz.underlying24 hi hz0 hz1 hz2 rfl _ _ _ rfl (own_empty w) _ _ _ (bs.map (Value.int .u8)) rfl Hr.out.2.1 (by simpa using hlb) (Hr.out.cells hb1.out) (bytes_oneCell bs) ?c1 ?c2 ?c3 ?_)
    | fail)
  case c1 => simp; unfold maxLen; omega
  case c2 => simp; omega
  case c3 => simp
  intro v' w2 hown' hgrow
  have HO : Hid (Own w2 w.heap.size v' bs) := own_copy hlb (by simpa using hown')
  have HB : Hid (Below w.heap.size w w2) := hb1.out.grown hgrow (by simp) (fun k hk => by simp [Value.ownBlock] at hk; omega)
  clear hown' hgrow
  go_wp2
  go_ret
  exact ⟨_, rfl, HO, HB⟩

def marks (k : Nat) : List Int := (List.range k).map fun (i : Nat) => pat 7000000 (i : Int)
theorem marks_succ (k : Nat) : marks (k + 1) = marks k ++ [pat 7000000 (k : Int)] := by simp [marks, List.range_succ]
theorem marks_len (k : Nat) : (marks k).length = k := by simp [marks]

theorem own_mark {w' : World} {base k n : Nat} {v' : Value} {bs : List Int} (hn : n = bs.length + k + 1) (h : w'.ownsRow base 5 1 v' n (bs.map (Value.int .u8) ++ ((marks k).map (Value.int .u8) ++ [.int .u8 (pat 7000000 (k : Int))]))) : Own w' base v' (bs ++ marks (k + 1)) := by
  unfold Own
  rw [marks_succ]
  subst hn
  simpa [marks_len, Nat.add_assoc] using h

theorem below_push {w wr w' : World} {base : Nat} {v : Value} {bs : List Int} {o : Obj} (hbel : Below base w wr) (hb : base ≤ wr.heap.size) (ho : Own wr base v bs) (hg : (wr.alloc o).grownBy w' v.ownBlock) : Below base w w' :=
  (hbel.alloc hb o).grown hg (by simp; omega) (fun k hk => (ho.lt k hk).1)

set_option maxRecDepth 100000 in
set_option maxHeartbeats 1000000 in
theorem loose_any (ao : Option Addr) (len cap : Nat) (bs : List Int) (w : World) (hr : Rd w ao len cap bs) (hlen : len ≤ 140737488355264) :
    Calls Tryz.prog 13 #[.slice ao len cap] w fun e w' => ∃ v', e = .returned v' ∧ Own w' w.heap.size v' (bs ++ marks 64) ∧ Below w.heap.size w w' := by
  obtain ⟨i0, hi, hz0, hz1, hz2⟩ := info_parts info_u8
  have hb1 : Hid (Below w.heap.size w (w.alloc (.cells #[] 5))) := (Below.refl _ _).alloc (Nat.le_refl _) _
  have hlb := hr.1
  have Hr : Hid (Rd w ao len cap bs) := hr
  clear hr
  go_enter Tryz.func13, Tryz.ntmps13
  go_wp2_with (first
    | (at_builtin; refine wpList_append_rd _ rfl _ _ 24 rfl w.heap.size 5 i0 (.int .u8 0) 1 Tryz.underlying24 hi hz0 hz1 hz2 rfl _ _ _ rfl (own_empty w) _ _ _ (bs.map (Value.int .u8)) rfl Hr.out.2.1 (by simpa using hlb) (Hr.out.cells hb1.out) (bytes_oneCell bs) ?c1 ?c2 ?c3 ?_)
    | fail)
  case c1 => simp; unfold maxLen; omega
  case c2 => simp; omega
  case c3 => simp
  intro v' w2 hown' hgrow
  have HO : Hid (Own w2 w.heap.size v' bs) := own_copy hlb (by simpa using hown')
  have HB : Hid (Below w.heap.size w w2) := hb1.out.grown hgrow (by simp) (fun k hk => by simp [Value.ownBlock] at hk; omega)
  clear hown' hgrow
  go_wp2
  go_loopw [3, 4] (fun v i wr => ∃ k : Nat, k ≤ 64 ∧ i = .int .i64 k ∧ Own wr w.heap.size v (bs ++ marks k) ∧ Below w.heap.size w wr) (fun _ i _ => 64 - (intOf i).toNat)
  case atStart => exact ⟨0, Nat.zero_le _, rfl, by simpa [marks] using HO.out, HB⟩
  case round =>
    obtain ⟨k, hk, rfl, ho, hbel⟩ := hrel
    have hml := marks_len k
    by_cases hlt : k < 64
    · go_wp2_with (first
        | (go_at_call 33; refine (pat_any _ _ _ (by omega) (by omega) (by omega) (by omega)).mono ?_; rintro e w' ⟨rfl, rfl⟩)
        | (at_builtin; refine wpList_append_own _ rfl _ _ 24 rfl w.heap.size 5 i0 (.int .u8 0) 1 1 Tryz.underlying24 hi hz0 hz1 hz2 rfl (by decide) _ _ _ rfl (ho.alloc _) ⟨wr.heap.size, 0, none⟩ 1 1 [.int .u8 (pat 7000000 (k : Int))] rfl rfl ?d1 ?d2 ?d3 ?d4 ?d5 ?_)
        | fail)
      case d1 => exact cell_one_new _ _ _
      case d2 => intro x hx; simp at hx; subst hx; rfl
      case d3 => simp [marks_len]; unfold maxLen; omega
      case d4 => simp [marks_len]; omega
      case d5 => have := hbel.size; simp; omega
      intro v3 w3 hown3 hgrow3 _
      have HO3 : Hid (Own w3 w.heap.size v3 (bs ++ marks (k + 1))) := own_mark (by omega) hown3
      have HB3 : Hid (Below w.heap.size w w3) := below_push hbel (by have := hbel.size; omega) ho hgrow3
      clear hown3 hgrow3 ho hbel
      go_wp2
      go_roundw
      case rel => exact ⟨k + 1, by omega, by go_num, HO3, HB3⟩
      case measure => simp [intOf]; omega
    · obtain rfl : k = 64 := by omega
      go_wp2
      go_ret
      exact ⟨_, rfl, ho, hbel⟩

set_option maxRecDepth 100000 in
set_option maxHeartbeats 1000000 in
theorem unspoilt_some (lb lo capl : Nat) (b off n capb : Nat) (bs : List Int) (w : World) (hn : bs.length = n) (hlen : n ≤ 140737488355264)
    (hl : ∀ i, i < n + 64 → w.cell? ⟨lb, lo + i, none⟩ = some (.int .u8 ((bs ++ marks 64).getD i 0))) (hb : ∀ i, i < n → w.cell? ⟨b, off + i, none⟩ = some (.int .u8 (bs.getD i 0))) :
    Calls Tryz.prog 17 #[.slice (some ⟨lb, lo, none⟩) (n + 64) capl, .slice (some ⟨b, off, none⟩) n capb] w fun e w' => e = .returned (.bool true) ∧ Below w.heap.size w w' := by
  have hne : (((n + 64 : Nat) : Int) != (n : Int) + 64) = false := by simp
  go_enter Tryz.func17, Tryz.ntmps17
  go_wp2
  go_loopw [5] (fun i wr => ∃ k : Nat, k ≤ n ∧ i = .int .i64 k ∧ Below w.heap.size w wr) (fun i _ => n - (intOf i).toNat)
  case atStart => exact ⟨0, Nat.zero_le _, rfl, Below.refl _ _⟩
  case round =>
    obtain ⟨k, hk, rfl, hbel⟩ := hrel
    by_cases hlt : k < n
    · have h1 := hl k (by omega)
      have h2 := hb k hlt
      have h1' : wr.cell? ⟨lb, lo + k, none⟩ = some (.int .u8 (bs.getD k 0)) := by
        rw [hbel.cell (World.block_lt_of_cell? w _ h1), h1]; simp [List.getD, List.getElem?_append, show k < bs.length by omega]
      have h2' : wr.cell? ⟨b, off + k, none⟩ = some (.int .u8 (bs.getD k 0)) := by rw [hbel.cell (World.block_lt_of_cell? w _ h2), h2]
      clear h1 h2 hl hb
      generalize bs.getD k 0 = x at *
      have HB : Hid (Below w.heap.size w wr) := hbel
      clear hbel
      go_wp2
      go_quiet (fail)
      go_wp2
      go_roundw
      case rel => exact ⟨k + 1, by omega, by go_num, below_drewN HB.out _⟩
      case measure => simp [intOf]; omega
    · have HB : Hid (Below w.heap.size w wr) := hbel
      clear hbel hb
      go_wp2
      go_loopw [6] (fun i ws => ∃ k : Nat, k ≤ 64 ∧ i = .int .i64 k ∧ Below w.heap.size w ws) (fun i _ => 64 - (intOf i).toNat)
      case atStart => exact ⟨0, Nat.zero_le _, rfl, HB⟩
      case round =>
        obtain ⟨j, hj, rfl, hbel⟩ := hrel
        by_cases hjl : j < 64
        · have h1 := hl (n + j) (by omega)
          have h1' : wr.cell? ⟨lb, lo + (n + j), none⟩ = some (.int .u8 (pat 7000000 (j : Int))) := by
            rw [hbel.cell (World.block_lt_of_cell? w _ h1), h1]
            have e : (bs ++ marks 64).getD (n + j) 0 = pat 7000000 (j : Int) := by
              subst hn
              simp [List.getD, marks, hjl]
            rw [e]
          clear h1 hl
          have HB2 : Hid (Below w.heap.size w wr) := hbel
          clear hbel
          go_wp2
          go_quiet ((go_at_call 33; exact Calls.quiet_of_same (pat_same _ _ _ (by omega) (by omega) (by omega) (by omega))))
          go_wp2
          go_roundw
          case rel => exact ⟨j + 1, by omega, by go_num, below_drewN HB2.out _⟩
          case measure => simp [intOf]; omega
        · clear hl
          go_wp2
          go_ret
          exact ⟨rfl, hbel⟩

set_option maxRecDepth 100000 in
set_option maxHeartbeats 1000000 in
theorem unspoilt_none (lb lo capl : Nat) (ao : Option Addr) (capb : Nat) (w : World)
    (hl : ∀ i, i < 64 → w.cell? ⟨lb, lo + i, none⟩ = some (.int .u8 ((marks 64).getD i 0))) :
    Calls Tryz.prog 17 #[.slice (some ⟨lb, lo, none⟩) 64 capl, .slice ao 0 capb] w fun e w' => e = .returned (.bool true) ∧ Below w.heap.size w w' := by
  have HB : Hid (Below w.heap.size w w) := Below.refl _ _
  go_enter Tryz.func17, Tryz.ntmps17
  go_wp2
  refine wp_loop_rounds 1 ?_
  rw [rounds_succ]
  go_wp2
  go_loopw [6] (fun i ws => ∃ k : Nat, k ≤ 64 ∧ i = .int .i64 k ∧ Below w.heap.size w ws) (fun i _ => 64 - (intOf i).toNat)
  case atStart => exact ⟨0, Nat.zero_le _, rfl, HB⟩
  case round =>
    obtain ⟨j, hj, rfl, hbel⟩ := hrel
    by_cases hjl : j < 64
    · have h1 := hl j (by omega)
      have h1' : wr.cell? ⟨lb, lo + j, none⟩ = some (.int .u8 (pat 7000000 (j : Int))) := by
        rw [hbel.cell (World.block_lt_of_cell? w _ h1), h1]
        have e : (marks 64).getD j 0 = pat 7000000 (j : Int) := by
          simp [List.getD, marks, hjl]
        rw [e]
      clear h1 hl
      have HB2 : Hid (Below w.heap.size w wr) := hbel
      clear hbel
      go_wp2
      go_quiet ((go_at_call 33; exact Calls.quiet_of_same (pat_same _ _ _ (by omega) (by omega) (by omega) (by omega))))
      go_wp2
      go_roundw
      case rel => exact ⟨j + 1, by omega, by go_num, below_drewN HB2.out _⟩
      case measure => simp [intOf]; omega
    · clear hl
      go_wp2
      go_ret
      exact ⟨rfl, hbel⟩

theorem unspoilt_any (lb lo capl : Nat) (ao : Option Addr) (n capb : Nat) (bs : List Int) (w : World) (hr : Rd w ao n capb bs) (hlen : n ≤ 140737488355264)
    (hl : ∀ i, i < n + 64 → w.cell? ⟨lb, lo + i, none⟩ = some (.int .u8 ((bs ++ marks 64).getD i 0))) :
    Calls Tryz.prog 17 #[.slice (some ⟨lb, lo, none⟩) (n + 64) capl, .slice ao n capb] w fun e w' => e = .returned (.bool true) ∧ Below w.heap.size w w' := by
  obtain ⟨hn, _, hc, _⟩ := hr
  rcases hc with h0 | ⟨b, off, rfl, hc⟩
  · subst h0
    obtain rfl : bs = [] := List.eq_nil_of_length_eq_zero hn
    have := unspoilt_none lb lo capl ao capb w (by simpa using hl)
    simpa using this
  · exact unspoilt_some lb lo capl b off n capb bs w hn hlen hl hc

def trn (i : Nat) (c : Int) : Int := bits .xor .u8 c (17 + (i : Int) % 3)
def turnTo (k : Nat) (bs : List Int) : List Int := bs.mapIdx fun i c => if i < k then trn i c else c
theorem turnTo_len (k : Nat) (bs : List Int) : (turnTo k bs).length = bs.length := by simp [turnTo]
theorem turnTo_zero (bs : List Int) : turnTo 0 bs = bs := by
  apply List.ext_getElem
  · simp [turnTo]
  · intro i h1 h2; simp [turnTo]
theorem turnTo_get (k : Nat) (bs : List Int) (h : k < bs.length) : (turnTo k bs).getD k 0 = bs.getD k 0 := by
  simp [turnTo, List.getD, h]
theorem turnTo_set (k : Nat) (bs : List Int) (h : k < bs.length) : (turnTo k bs).set k (trn k (bs.getD k 0)) = turnTo (k + 1) bs := by
  apply List.ext_getElem
  · simp [turnTo]
  · intro i h1 h2
    simp only [turnTo, List.getElem_set, List.getElem_mapIdx]
    by_cases e : k = i
    · subst e; simp [List.getD, h]
    · rw [if_neg e]
      by_cases hi : i < k
      · rw [if_pos hi, if_pos (by omega)]
      · rw [if_neg hi, if_neg (by omega)]
theorem turnTo_range (k : Nat) (bs : List Int) (h : ∀ i, 0 ≤ bs.getD i 0 ∧ bs.getD i 0 ≤ 255) : ∀ i, 0 ≤ (turnTo k bs).getD i 0 ∧ (turnTo k bs).getD i 0 ≤ 255 := by
  intro i
  by_cases hi : i < bs.length
  · have e : (turnTo k bs).getD i 0 = if i < k then trn i (bs.getD i 0) else bs.getD i 0 := by simp [turnTo, List.getD, hi]
    rw [e]
    split
    · exact u8_range _ _ _
    · exact h i
  · simp [turnTo, List.getD, hi]

theorem Own.rdPrefix {w : World} {base g n cap : Nat} {bs ms : List Int} (h : Own w base (.slice (some ⟨g, 0, none⟩) n cap) (bs ++ ms)) (hr : ∀ i, 0 ≤ bs.getD i 0 ∧ bs.getD i 0 ≤ 255) : Rd w (some ⟨g, 0, none⟩) bs.length cap bs := by
  refine ⟨rfl, by simp, .inr ⟨g, 0, rfl, fun i hi => ?_⟩, hr⟩
  have hn : n = (bs ++ ms).length := by
    rcases h.2 with ⟨h1, _⟩ | ⟨g', cap', cur, hv, _⟩
    · simp at h1
    · simp only [Value.slice.injEq] at hv; exact hv.2.1
  subst hn
  have := World.ownsRow.cellAt h i (by simp; omega)
  rw [Nat.zero_add, this]
  simp [List.getD, List.getElem?_append, hi]

theorem Own.cellAll {w : World} {base g n cap : Nat} {bs : List Int} (h : Own w base (.slice (some ⟨g, 0, none⟩) n cap) bs) : ∀ i, i < bs.length → w.cell? ⟨g, 0 + i, none⟩ = some (.int .u8 (bs.getD i 0)) := by
  intro i hi
  have hn : n = bs.length := by
    rcases h.2 with ⟨h1, _⟩ | ⟨g', cap', cur, hv, _⟩
    · simp at h1
    · simp only [Value.slice.injEq] at hv; exact hv.2.1
  subst hn
  have := World.ownsRow.cellAt h i (by omega)
  rw [Nat.zero_add, this]
  simp [List.getD, hi]

theorem Own.len {w : World} {base g n cap : Nat} {bs : List Int} (h : Own w base (.slice (some ⟨g, 0, none⟩) n cap) bs) : n = bs.length := by
  rcases h.2 with ⟨h1, _⟩ | ⟨g', cap', cur, hv, _⟩
  · simp at h1
  · simp only [Value.slice.injEq] at hv; exact hv.2.1

theorem grownBy_trans {a b c : World} {r : Option Nat} (h : a.grownBy b r) (k : b.grownBy c r) : a.grownBy c r :=
  ⟨k.os.trans h.os, k.tape.trans h.tape, k.output.trans h.output, Nat.le_trans h.size k.size, fun i hi hr => (k.block i (Nat.lt_of_lt_of_le hi h.size) hr).trans (h.block i hi hr)⟩
theorem grown_below {w w1 : World} (hb : Below w.heap.size w w1) (r : Option Nat) : w.grownBy w1 r := ⟨hb.os, hb.tape, hb.output, hb.size, fun k hk _ => hb.block k hk⟩

theorem owns_below {w w1 : World} {base e size n : Nat} {v : Value} {xs : List Value} (h : w.ownsRow base e size v n xs) (hb : Below w.heap.size w w1) : w1.ownsRow base e size v n xs := by
  cases hv : v.ownBlock with
  | none => exact h.kept (grown_below hb none) (.inl hv)
  | some g => exact h.kept (grown_below hb none) (.inr (by rw [hv]; simp))

theorem Own.mono {w : World} {base base' : Nat} {v : Value} {bs : List Int} (h : Own w base v bs) (hb : base' ≤ base) : Own w base' v bs := by
  refine ⟨h.1, ?_⟩
  rcases h.2 with h | ⟨g, cap, cur, hv, hg, h⟩
  · exact .inl h
  · exact .inr ⟨g, cap, cur, hv, by omega, h⟩

theorem turn_store {w wr : World} {base g n cap k : Nat} {bs ms : List Int} (h : Own wr base (.slice (some ⟨g, 0, none⟩) n cap) (turnTo k bs ++ ms)) (hk : k < bs.length) (hg : w.grownBy wr (some g)) :
    Own (wr.setCell ⟨g, k, none⟩ (.int .u8 (trn k (bs.getD k 0)))) base (.slice (some ⟨g, 0, none⟩) n cap) (turnTo (k + 1) bs ++ ms) ∧ w.grownBy (wr.setCell ⟨g, k, none⟩ (.int .u8 (trn k (bs.getD k 0)))) (some g) := by
  have hn := h.len
  subst hn
  have hs := World.ownsRow.stored h k (.int .u8 (trn k (bs.getD k 0)))
  refine ⟨?_, grownBy_trans hg hs.2⟩
  have e : ((turnTo k bs ++ ms).map (Value.int .u8)).set k (.int .u8 (trn k (bs.getD k 0))) = (turnTo (k + 1) bs ++ ms).map (Value.int .u8) := by
    rw [← List.map_set, List.set_append_left k _ (by rw [turnTo_len]; exact hk), turnTo_set k bs hk]
  have hs1 := hs.1
  rw [e] at hs1
  unfold Own
  have el : (turnTo (k + 1) bs ++ ms).length = (turnTo k bs ++ ms).length := by simp [turnTo_len]
  rw [el]
  exact hs1

theorem Rd.below {w w1 : World} {ao : Option Addr} {len cap : Nat} {bs : List Int} (h : Rd w ao len cap bs) (hb : Below w.heap.size w w1) : Rd w1 ao len cap bs := by
  obtain ⟨h1, h2, h3, h4⟩ := h
  refine ⟨h1, h2, ?_, h4⟩
  rcases h3 with h | ⟨b, off, h, hc⟩
  · exact .inl h
  · exact .inr ⟨b, off, h, fun i hi => (hb.cell (World.block_lt_of_cell? w _ (hc i hi))).trans (hc i hi)⟩

theorem Rd.grown {w w1 : World} {ao : Option Addr} {len cap g B : Nat} {bs : List Int} (h : Rd w ao len cap bs) (hg : w.grownBy w1 (some g)) (hlt : ∀ x, ao = some x → 0 < len → x.block < B) (hB : B ≤ g) : Rd w1 ao len cap bs := by
  obtain ⟨h1, h2, h3, h4⟩ := h
  refine ⟨h1, h2, ?_, h4⟩
  rcases h3 with h | ⟨b, off, h, hc⟩
  · exact .inl h
  · refine .inr ⟨b, off, h, fun i hi => hg.cell (hc i hi) ?_⟩
    have := hlt _ h (by omega)
    simp at this ⊢
    omega

theorem Own.rdAny {w : World} {base : Nat} {v : Value} {bs : List Int} (h : Own w base v bs) (hr : ∀ i, 0 ≤ bs.getD i 0 ∧ bs.getD i 0 ≤ 255) : ∃ ao cap, v = .slice ao bs.length cap ∧ Rd w ao bs.length cap bs := by
  rcases h.2 with ⟨h1, h2⟩ | ⟨g, cap', cur, hv, _⟩
  · refine ⟨none, 0, by rw [h2]; exact h1, rfl, fun _ => ⟨h2, rfl⟩, .inl h2, hr⟩
  · subst hv
    have h' : Own w base (.slice (some ⟨g, 0, none⟩) bs.length cap') (bs ++ []) := by simpa using h
    exact ⟨_, _, rfl, h'.rdPrefix hr⟩

theorem unspoilt_own (g capl base : Nat) (ao : Option Addr) (capb : Nat) (bs : List Int) (w : World) (hr : Rd w ao bs.length capb bs) (hlen : bs.length ≤ 140737488355264) (ho : Own w base (.slice (some ⟨g, 0, none⟩) (bs ++ marks 64).length capl) (bs ++ marks 64)) :
    Calls Tryz.prog 17 #[.slice (some ⟨g, 0, none⟩) (bs.length + 64) capl, .slice ao bs.length capb] w fun e w' => e = .returned (.bool true) ∧ Below w.heap.size w w' :=
  unspoilt_any g 0 capl ao bs.length capb bs w hr hlen fun i hi => ho.cellAll i (by simp [marks_len]; omega)

end Go.Proofs.YtjgjpepmfiklfaaGreatDoor.Lo
