import Derived.Test.YtjgjpepmfiklfaaGreatDoorMath
import Derived.Test.YtjgjpepmfiklfaaGreatDoorLoose
namespace Go.Proofs.YtjgjpepmfiklfaaGreatDoor.Lo
open Go.RowKit
set_option linter.unusedVariables false

theorem put_step (f : Nat) (u : Int) (h0 : 0 ≤ u) (h : u < 128 ^ (f + 1)) (h1 : 128 ≤ u) : ∃ f', f = f' + 1 ∧ Wm.put f u = (u % 128 + 128) :: Wm.put f' (u / 128) ∧ 0 ≤ u / 128 ∧ u / 128 < 128 ^ (f' + 1) := by
  cases f with
  | zero => simp at h; omega
  | succ f' => exact ⟨f', rfl, by simp only [Wm.put]; rw [if_neg (by omega)], by omega, by rw [Int.pow_succ] at h; omega⟩

theorem put_last (f : Nat) (u : Int) (h1 : u < 128) : Wm.put f u = [u] := by
  cases f with
  | zero => rfl
  | succ f' => simp only [Wm.put]; rw [if_pos h1]

theorem put_more {p done r q : List Int} {x : Int} (h : p = done ++ q) (hq : q = x :: r) : p = (done ++ [x]) ++ r := by
  rw [h, hq]; simp

theorem own_push {w' : World} {base : Nat} {v' : Value} {bs done : List Int} {c : Int} (h : w'.ownsRow base 5 1 v' (bs.length + done.length + 1) (bs.map (Value.int .u8) ++ (done.map (Value.int .u8) ++ [.int .u8 c]))) : Own w' base v' (bs ++ (done ++ [c])) := by
  unfold Own; simpa [Nat.add_assoc] using h

def KeptT (w w' : World) : Prop := w.heap.size ≤ w'.heap.size ∧ ∀ k, k < w.heap.size → (∀ cur, w.heap[k]? ≠ some (.cells cur 5 (0, 0))) → w'.heap[k]? = w.heap[k]?
theorem KeptT.refl (w : World) : KeptT w w := ⟨Nat.le_refl _, fun _ _ _ => rfl⟩
theorem KeptT.trans {a b c : World} (h : KeptT a b) (g : KeptT b c) : KeptT a c :=
  ⟨Nat.le_trans h.1 g.1, fun k hk hn => (g.2 k (Nat.lt_of_lt_of_le hk h.1) (fun cur e => hn cur ((h.2 k hk hn).symm.trans e))).trans (h.2 k hk hn)⟩
theorem KeptT.ofBelow {a b : World} (h : Below a.heap.size a b) : KeptT a b := ⟨h.size, fun k hk _ => h.block k hk⟩
theorem KeptT.ofAlloc (a : World) (o : Obj) : KeptT a (a.alloc o) := KeptT.ofBelow ((Below.refl _ _).alloc (Nat.le_refl _) o)

theorem own_typeU8 {w : World} {base k : Nat} {v : Value} {bs : List Int} (h : Own w base v bs) (hk : v.ownBlock = some k) : ∃ cur, w.heap[k]? = some (.cells cur 5 (0, 0)) := by
  rcases h.2 with ⟨rfl, _⟩ | ⟨g, cap, cur, rfl, hb, hg, _⟩
  · simp [Value.ownBlock] at hk
  · simp [Value.ownBlock] at hk
    subst hk
    exact ⟨cur, hg⟩

theorem KeptT.grow {a b : World} {base : Nat} {v : Value} {bs : List Int} (ho : Own a base v bs) (hg : a.grownBy b v.ownBlock) : KeptT a b :=
  ⟨hg.size, fun k hk hn => hg.block k hk (fun e => by obtain ⟨cur, h⟩ := own_typeU8 ho e.symm; exact hn cur h)⟩
theorem KeptT.push {a b : World} {base : Nat} {v : Value} {bs : List Int} {o : Obj} (ho : Own a base v bs) (hg : (a.alloc o).grownBy b v.ownBlock) : KeptT a b :=
  (KeptT.ofAlloc a o).trans (KeptT.grow (ho.alloc o) hg)

set_option maxRecDepth 100000 in
set_option maxHeartbeats 1000000 in
theorem rput_any (base : Nat) (v : Value) (bs : List Int) (n : Int) (w : World)
    (hown : Own w base v bs) (hb : base ≤ w.heap.size) (h0 : 0 ≤ n) (h1 : n ≤ 4611686018427387904) (hroom : bs.length + 9 ≤ 140737488355328) :
    Calls Tryz.prog 81 #[v, .int .i64 n] w fun e w' => ∃ v', e = .returned v' ∧ Own w' base v' (bs ++ Wm.put 8 n) ∧ Below base w w' ∧ KeptT w w' := by
  obtain ⟨i0, hi, hz0, hz1, hz2⟩ := info_parts info_u8
  go_enter Tryz.func81, Tryz.ntmps81
  go_wp2
  go_loopw [0, 1] (fun vb x wr => ∃ (done : List Int) (f : Nat) (u : Int), x = .int .i64 u ∧ 0 ≤ u ∧ Hid (u < 128 ^ (f + 1)) ∧ u ≤ 4611686018427387904 ∧ done.length + f ≤ 8 ∧ Hid (Wm.put 8 n = done ++ Wm.put f u) ∧ Own wr base vb (bs ++ done) ∧ Below base w wr ∧ KeptT w wr) (fun _ x _ => (intOf x).toNat)
  case atStart => exact ⟨[], 8, n, rfl, h0, show n < 128 ^ (8 + 1) by simp; omega, h1, by simp, rfl, by simpa using hown, Below.refl _ _, KeptT.refl _⟩
  case round =>
    obtain ⟨done, f, u, rfl, hu0, huf, hum, hdf, hput, ho, hbel, hkt⟩ := hrel
    by_cases h128 : 128 ≤ u
    · go_wp2_with (first
        | (at_builtin; refine wpList_append_own _ rfl _ _ 24 rfl base 5 i0 (.int .u8 0) 1 1 Tryz.underlying24 hi hz0 hz1 hz2 rfl (by decide) _ _ _ rfl (ho.alloc _) ⟨wr.heap.size, 0, none⟩ 1 1 [.int .u8 (u % 128 + 128)] rfl rfl ?c1 ?c2 ?c3 ?c4 ?c5 ?_)
        | go_in)
      case c1 => exact cell_one_new _ _ _
      case c2 => intro x hx; simp at hx; subst hx; rfl
      case c3 => simp; unfold maxLen; omega
      case c4 => simp; omega
      case c5 => have := hbel.size; simp; omega
      intro v' w1 hown' hgrow _
      have HO : Hid (Own w1 base v' (bs ++ (done ++ [u % 128 + 128]))) := own_push hown'
      have HB : Hid (Below base w w1) := below_push hbel (by have := hbel.size; omega) ho hgrow
      have HK : Hid (KeptT w w1) := hkt.trans (KeptT.push ho hgrow)
      obtain ⟨f', rfl, hpf, hq0, hqf⟩ := put_step f u hu0 huf h128
      have HP : Hid (Wm.put 8 n = (done ++ [u % 128 + 128]) ++ Wm.put f' (u / 128)) := put_more hput.out hpf
      have HF : Hid (u / 128 < 128 ^ (f' + 1)) := hqf
      clear hpf hqf hown' hgrow ho hbel hkt
      go_wp2
      go_roundw
      case rel => exact ⟨done ++ [u % 128 + 128], f', u / 128, by go_num, by omega, HF, by omega, by simp; omega, HP, HO, HB, HK⟩
      case measure => simp [intOf]; omega
    · have HP : Hid (Wm.put 8 n = done ++ [u]) := by rw [hput.out, put_last f u (by omega)]; rfl
      go_wp2_with (first
        | (at_builtin; refine wpList_append_own _ rfl _ _ 24 rfl base 5 i0 (.int .u8 0) 1 1 Tryz.underlying24 hi hz0 hz1 hz2 rfl (by decide) _ _ _ rfl (ho.alloc _) ⟨wr.heap.size, 0, none⟩ 1 1 [.int .u8 u] rfl rfl ?d1 ?d2 ?d3 ?d4 ?d5 ?_)
        | go_in)
      case d2 => rfl
      case d3 => unfold maxLen; omega
      case d4 => omega
      case d5 => have := hbel.size; omega
      intro v' w1 hown' hgrow _
      have HO : Hid (Own w1 base v' (bs ++ (done ++ [u]))) := own_push hown'
      have HB : Hid (Below base w w1) := below_push hbel (by have := hbel.size; omega) ho hgrow
      have HK : Hid (KeptT w w1) := hkt.trans (KeptT.push ho hgrow)
      clear hown' hgrow ho hbel hkt
      go_wp2
      go_ret
      exact ⟨_, rfl, by rw [HP.out]; exact HO, HB, HK⟩

theorem rwithin_yes (v lo hi : Int) (w : World) (h1 : lo ≤ v) (h2 : v ≤ hi) : Calls Tryz.prog 80 #[.int .i64 v, .int .i64 lo, .int .i64 hi] w fun e w' => e = .returned (.bool true) ∧ w = w' := by
  go_enter Tryz.func80, Tryz.ntmps80
  go_wp2
  go_ret
  exact ⟨rfl, rfl⟩

theorem rwithin_no (v lo hi : Int) (w : World) (h : ¬ (lo ≤ v ∧ v ≤ hi)) : Calls Tryz.prog 80 #[.int .i64 v, .int .i64 lo, .int .i64 hi] w fun e w' => e = .returned (.bool false) ∧ w = w' := by
  by_cases h1 : lo ≤ v
  · have h2 : decide (v ≤ hi) = false := by simp; omega
    clear h
    go_enter Tryz.func80, Tryz.ntmps80
    go_wp2
    go_ret
    exact ⟨rfl, rfl⟩
  · clear h
    go_enter Tryz.func80, Tryz.ntmps80
    go_wp2
    go_ret
    exact ⟨rfl, rfl⟩

set_option maxRecDepth 100000 in
set_option maxHeartbeats 1000000 in
theorem same_some (b off b' off' n c c' : Nat) (bs : List Int) (w : World) (hn : bs.length = n) (hlen : n ≤ 140737488355328)
    (h1 : ∀ i, i < n → w.cell? ⟨b, off + i, none⟩ = some (.int .u8 (bs.getD i 0))) (h2 : ∀ i, i < n → w.cell? ⟨b', off' + i, none⟩ = some (.int .u8 (bs.getD i 0))) :
    Calls Tryz.prog 10 #[.slice (some ⟨b, off, none⟩) n c, .slice (some ⟨b', off', none⟩) n c'] w fun e w' => e = .returned (.bool true) ∧ Below w.heap.size w w' := by
  go_enter Tryz.func10, Tryz.ntmps10
  go_wp2
  go_loopw [5] (fun i wr => ∃ k : Nat, k ≤ n ∧ i = .int .i64 k ∧ Below w.heap.size w wr) (fun i _ => n - (intOf i).toNat)
  case atStart => exact ⟨0, Nat.zero_le _, rfl, Below.refl _ _⟩
  case round =>
    obtain ⟨k, hk, rfl, hbel⟩ := hrel
    by_cases hlt : k < n
    · have g1 := h1 k hlt
      have g2 := h2 k hlt
      have g1' : wr.cell? ⟨b, off + k, none⟩ = some (.int .u8 (bs.getD k 0)) := by rw [hbel.cell (World.block_lt_of_cell? w _ g1), g1]
      have g2' : wr.cell? ⟨b', off' + k, none⟩ = some (.int .u8 (bs.getD k 0)) := by rw [hbel.cell (World.block_lt_of_cell? w _ g2), g2]
      clear g1 g2 h1 h2
      generalize bs.getD k 0 = x at *
      have HB : Hid (Below w.heap.size w wr) := hbel
      clear hbel
      go_wp2
      go_quiet (fail)
      go_wp2
      go_roundw
      case rel => exact ⟨k + 1, by omega, by go_num, below_drewN HB.out _⟩
      case measure => simp [intOf]; omega
    · have HB : Hid (Below w.heap.size w wr) := hbel
      clear hbel h1 h2
      go_wp2
      go_ret
      exact ⟨rfl, HB⟩

theorem same_none (ao ao' : Option Addr) (c c' : Nat) (w : World) :
    Calls Tryz.prog 10 #[.slice ao 0 c, .slice ao' 0 c'] w fun e w' => e = .returned (.bool true) ∧ Below w.heap.size w w' := by
  go_enter Tryz.func10, Tryz.ntmps10
  go_wp2
  refine wp_loop_rounds 1 ?_
  rw [rounds_succ]
  go_wp2
  go_ret
  exact ⟨rfl, Below.refl _ _⟩

theorem same_any (ao ao' : Option Addr) (n c c' : Nat) (bs : List Int) (w : World) (h1 : Rd w ao n c bs) (h2 : Rd w ao' n c' bs) (hlen : n ≤ 140737488355328) :
    Calls Tryz.prog 10 #[.slice ao n c, .slice ao' n c'] w fun e w' => e = .returned (.bool true) ∧ Below w.heap.size w w' := by
  obtain ⟨hn, _, hc, _⟩ := h1
  obtain ⟨_, _, hc', _⟩ := h2
  rcases hc with h0 | ⟨b, off, rfl, hc⟩
  · subst h0; exact same_none ao ao' c c' w
  · rcases hc' with h0 | ⟨b', off', rfl, hc'⟩
    · subst h0; exact same_none _ _ c c' w
    · exact same_some b off b' off' n c c' bs w hn hlen hc hc'

def pi (bs : List Int) (n : Int) : List Int := if 0 ≤ n ∧ n ≤ 4611686018427387904 then bs ++ Wm.put 8 n else []
def pe (n : Int) : Int := if 0 ≤ n ∧ n ≤ 4611686018427387904 then 0 else 1

theorem put_len (f : Nat) (u : Int) : (Wm.put f u).length ≤ f + 1 := by
  induction f generalizing u with
  | zero => simp [Wm.put]
  | succ f ih => simp only [Wm.put]; split <;> simp; exact ih _

theorem pi_len (bs : List Int) (n : Int) : (pi bs n).length ≤ bs.length + 9 := by
  unfold pi; split
  · have := put_len 8 n; simp; omega
  · simp

theorem put_range (f : Nat) (u : Int) (h0 : 0 ≤ u) (h1 : u < 128 ^ (f + 1)) : ∀ x ∈ Wm.put f u, 0 ≤ x ∧ x ≤ 255 := by
  induction f generalizing u with
  | zero => intro x hx; simp [Wm.put] at hx; simp at h1; omega
  | succ f ih =>
    intro x hx
    simp only [Wm.put] at hx
    split at hx
    · simp at hx; omega
    · rcases List.mem_cons.1 hx with rfl | hx
      · omega
      · exact ih (u / 128) (by omega) (by rw [Int.pow_succ] at h1; omega) x hx

theorem getD_range {bs : List Int} (h : ∀ x ∈ bs, 0 ≤ x ∧ x ≤ 255) : ∀ i, 0 ≤ bs.getD i 0 ∧ bs.getD i 0 ≤ 255 := by
  intro i
  by_cases hi : i < bs.length
  · have : bs.getD i 0 ∈ bs := by simp only [List.getD, List.getElem?_eq_getElem hi]; exact List.getElem_mem hi
    exact h _ this
  · simp [List.getD, List.getElem?_eq_none (by omega : bs.length ≤ i)]

theorem mem_range {bs : List Int} (h : ∀ i, 0 ≤ bs.getD i 0 ∧ bs.getD i 0 ≤ 255) : ∀ x ∈ bs, 0 ≤ x ∧ x ≤ 255 := by
  intro x hx
  obtain ⟨i, hi⟩ := List.getElem?_of_mem hx
  have := h i
  simpa [List.getD, hi] using this

theorem pi_range (bs : List Int) (n : Int) (h : ∀ i, 0 ≤ bs.getD i 0 ∧ bs.getD i 0 ≤ 255) : ∀ i, 0 ≤ (pi bs n).getD i 0 ∧ (pi bs n).getD i 0 ≤ 255 := by
  apply getD_range
  intro x hx
  unfold pi at hx
  split at hx
  · rename_i hn
    rcases List.mem_append.1 hx with hx | hx
    · exact mem_range h x hx
    · exact put_range 8 n hn.1 (by simp; omega) x hx
  · simp at hx

end Go.Proofs.YtjgjpepmfiklfaaGreatDoor.Lo
