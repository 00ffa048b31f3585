import Derived.Test.YtcodpjblmeckkaaXh
import Derived.ArgAppend
import Derived.Deep.AppendLies
namespace Go.Proofs.Ytcodpjblmeckkaa.Dt
open Go.RowKit
set_option linter.unusedVariables false
set_option maxRecDepth 100000
set_option linter.unusedSimpArgs false
section
variable {D D' : De} {w w' W V : World} {B m : Nat}
theorem mks_len (n : Nat) (x : Int) : (mks n x).length = n := by simp [mks]
theorem mks_at (n : Nat) (x : Int) (i : Nat) (h : i < n) : (mks n x).getD i 0 = x := by simp [mks, List.getD, h]
theorem mks_set (k : Nat) (x : Int) (xs : List Int) (h : k < xs.length) : (mks k x ++ xs.drop k).set k x = mks (k + 1) x ++ xs.drop (k + 1) := by
  rw [List.set_append_right _ _ (by rw [mks_len]; exact Nat.le_refl _), mks_len, Nat.sub_self, List.drop_eq_getElem_cons h, List.set_cons_zero]
  simp [mks, List.replicate_succ']
theorem row_cellI {b n c i : Nat} {g : Nat} {xs : List Int} (h : w.ownsRow b 3 1 (.slice (some ⟨g, 0, none⟩) n c) n (ints xs)) (hi : i < n) : w.cell? ⟨g, i, none⟩ = some (.int .i64 (xs.getD i 0)) := by
  have hl := h.1
  rw [ints_len] at hl
  rw [World.ownsRow.cellAt h i (by omega)]
  simp [ints, List.getD, show i < xs.length by omega]
theorem row_fzI {b n c i : Nat} {g : Nat} {l : List Value} (h : w.ownsRow b 3 1 (.slice (some ⟨g, 0, none⟩) n c) n l) : w.frozen? ⟨g, i, none⟩ = false := by
  rcases h.2 with ⟨h1, _⟩ | ⟨g', cap, cur, hv, _, hh, _⟩
  · cases h1
  · simp at hv
    obtain ⟨rfl, _⟩ := hv
    exact frozen_of_row _ _ _ _ _ hh
theorem row_room {b n c i : Nat} {g : Nat} {l : List Value} (h : w.ownsRow b 3 1 (.slice (some ⟨g, 0, none⟩) n c) n l) (hi : i < c) : ∃ u, w.cell? ⟨g, i, none⟩ = some u := by
  rcases h.2 with ⟨h1, _⟩ | ⟨g', cap, cur, hv, _, hh, _, _, h5, _⟩
  · cases h1
  · simp at hv
    obtain ⟨rfl, rfl⟩ := hv
    exact ⟨cur[i]'(by omega), by rw [blk_cell hh i]; simp [show i < cur.size by omega]⟩
theorem ksetD {P : Nat → Prop} (w : World) (b i : Nat) (v : Value) (hp : P b) : Kept w (w.setCell ⟨b, i, none⟩ v) P := kset _ _ _ _ hp
theorem arg_olds {b n c g : Nat} {xs : List Int} (h : w.ownsRow b 3 1 (.slice (some ⟨g, 0, none⟩) n c) n (ints xs)) : ∀ j u, (ints xs)[j]? = some u → w.cell? ⟨g, 0 + j, none⟩ = some u := fun j u hu => by
  have hl := h.1
  have hj : j < (ints xs).length := (List.getElem?_eq_some_iff.1 hu).1
  rw [Nat.zero_add, World.ownsRow.cellAt h j (by omega)]
  exact hu
theorem arg_room {b n c g : Nat} {l : List Value} (h : w.ownsRow b 3 1 (.slice (some ⟨g, 0, none⟩) n c) n l) (hc : n + 1 ≤ c) (x : Value) : ∀ j, j < [x].length → (w.cell? ⟨g, 0 + n * 1 + j, none⟩).isSome = true ∧ w.frozen? ⟨g, 0 + n * 1 + j, none⟩ = false := fun j hj => by
  obtain rfl : j = 0 := by simp at hj; omega
  obtain ⟨u, hu⟩ := row_room h (i := n) (by omega)
  have e : 0 + n * 1 + 0 = n := by omega
  rw [e, hu]
  exact ⟨rfl, row_fzI h⟩
theorem own_room {b n c g : Nat} {xs : List Int} (h : w.ownsRow b 3 1 (.slice (some ⟨g, 0, none⟩) n c) n (ints xs)) (hc : n + 1 ≤ c) (x : Int) : (w.setCells g n [.int .i64 x]).ownsRow b 3 1 (.slice (some ⟨g, 0, none⟩) n c) n (ints xs) ∧ (w.setCells g n [.int .i64 x]).ownsRow b 3 1 (.slice (some ⟨g, 0, none⟩) (n + 1) c) (n + 1) (ints (xs ++ [x])) ∧ Kept w (w.setCells g n [.int .i64 x]) (fun q => q = g) := by
  rw [show w.setCells g n [.int .i64 x] = w.setCell ⟨g, n, none⟩ (.int .i64 x) from rfl]
  have hl : xs.length = n := by have := h.1; rw [ints_len] at this; omega
  rcases h.2 with ⟨h1, _⟩ | ⟨g', cap, cur, hv, hb, hh, h3, h4, h5, h6⟩
  · cases h1
  · simp at hv
    obtain ⟨rfl, rfl⟩ := hv
    have hs := heap_setCell_same w g n cur 3 (.int .i64 x) hh
    have h6' : cur.toList.take n = ints xs := by simpa using h6
    refine ⟨⟨h.1, .inr ⟨g, c, _, rfl, hb, hs, h3, h4, by simpa using h5, ?_⟩⟩, ⟨by rw [ints_len]; simp; omega, .inr ⟨g, c, _, rfl, hb, hs, hc, h4, by simpa using h5, ?_⟩⟩, ksetD _ _ _ _ rfl⟩
    · rw [Array.toList_setIfInBounds, Nat.mul_one, List.take_set_of_le (Nat.le_refl _)]
      exact h6'
    · rw [Array.toList_setIfInBounds, Nat.mul_one, List.take_add_one, List.take_set_of_le (Nat.le_refl _), h6']
      have hn : n < cur.toList.length := by simp; omega
      rw [List.getElem?_set_self hn]
      simp [ints]
theorem wl_roomI {ops : Array Oper} {rest : List Oper} {o : Oper} {a : Act} {Q : Exit → Act → World → Prop} (hgd : o.guard = none) (s x : Operand)
    (ho : o.op = .call { callee := .builtin .append, args := #[s, x], argTypes := #[25, 25] }) (w0 : World) (y : Int) (hw : w = w0.alloc (.cells #[.int .i64 y] 3)) (b g n c : Nat) (xs : List Int) (hs : a.eval s = .slice (some ⟨g, 0, none⟩) n c) (hown : w0.ownsRow b 3 1 (.slice (some ⟨g, 0, none⟩) n c) n (ints xs)) (hc : n + 1 ≤ c) (hx : a.eval x = .slice (some ⟨w0.heap.size, 0, none⟩) 1 1) (hn : n ≤ 1000000)
    (h : ∀ w1, w1.ownsRow b 3 1 (.slice (some ⟨g, 0, none⟩) n c) n (ints xs) → w1.ownsRow b 3 1 (.slice (some ⟨g, 0, none⟩) (n + 1) c) (n + 1) (ints (xs ++ [y])) → Kept w0 w1 (fun q => q = g) → wpList Try.prog ops Q rest (a.put o.dst (.slice (some ⟨g, 0, none⟩) (n + 1) c)) w1) : wpList Try.prog ops Q (o :: rest) a w := by
  obtain ⟨i0, hi, hz0, hz1, hz2⟩ := info_parts info_i
  subst hw
  have ho2 : (w0.alloc (.cells #[.int .i64 y] 3)).ownsRow b 3 1 (.slice (some ⟨g, 0, none⟩) n c) n (ints xs) := World.ownsRow.alloc hown _
  have hl : xs.length = n := by have := hown.1; rw [ints_len] at this; omega
  obtain ⟨p1, p2, p3⟩ := own_room ho2 hc y
  refine wpList_append_arg _ hgd s x 25 ho 3 i0 (.int .i64 0) 1 8 Try.underlying25 hi hz0 hz1 hz2 rfl (by decide) g 0 n c (ints xs) hs (by rw [ints_len]; omega) (arg_olds ho2) ⟨w0.heap.size, 0, none⟩ 1 1 [.int .i64 y] hx rfl (cell_one_new _ _ _) (by intro u hu; simp at hu; subst hu; rfl) (fun _ => arg_room ho2 hc _) (by unfold maxLen; omega) (by omega) (fun _ => ?_) (fun hh => by omega)
  have e : 0 + n * 1 = n := by omega
  rw [e]
  exact h _ p1 p2 ((Kept.ofBelow (balloc (Below.refl _ w0)) _).trans p3)
theorem wl_fullI {ops : Array Oper} {rest : List Oper} {o : Oper} {a : Act} {Q : Exit → Act → World → Prop} (hgd : o.guard = none) (s x : Operand)
    (ho : o.op = .call { callee := .builtin .append, args := #[s, x], argTypes := #[25, 25] }) (w0 : World) (y : Int) (hw : w = w0.alloc (.cells #[.int .i64 y] 3)) (b g n c : Nat) (xs : List Int) (hs : a.eval s = .slice (some ⟨g, 0, none⟩) n c) (hown : w0.ownsRow b 3 1 (.slice (some ⟨g, 0, none⟩) n c) n (ints xs)) (hc : ¬ n + 1 ≤ c) (hx : a.eval x = .slice (some ⟨w0.heap.size, 0, none⟩) 1 1) (hn : n ≤ 1000000)
    (h : ∀ g1 c1 w1, w0.heap.size ≤ g1 → w1.ownsRow w0.heap.size 3 1 (.slice (some ⟨g1, 0, none⟩) (n + 1) c1) (n + 1) (ints (xs ++ [y])) → Below w0.heap.size w0 w1 → wpList Try.prog ops Q rest (a.put o.dst (.slice (some ⟨g1, 0, none⟩) (n + 1) c1)) w1) : wpList Try.prog ops Q (o :: rest) a w := by
  obtain ⟨i0, hi, hz0, hz1, hz2⟩ := info_parts info_i
  subst hw
  have ho2 : (w0.alloc (.cells #[.int .i64 y] 3)).ownsRow b 3 1 (.slice (some ⟨g, 0, none⟩) n c) n (ints xs) := World.ownsRow.alloc hown _
  have hl : xs.length = n := by have := hown.1; rw [ints_len] at this; omega
  have hb : Below w0.heap.size w0 (w0.alloc (.cells #[.int .i64 y] 3)) := balloc (Below.refl _ w0)
  have hbs := hb.size
  refine wpList_append_arg _ hgd s x 25 ho 3 i0 (.int .i64 0) 1 8 Try.underlying25 hi hz0 hz1 hz2 rfl (by decide) g 0 n c (ints xs) hs (by rw [ints_len]; omega) (arg_olds ho2) ⟨w0.heap.size, 0, none⟩ 1 1 [.int .i64 y] hx rfl (cell_one_new _ _ _) (by intro u hu; simp at hu; subst hu; rfl) (fun hh => absurd hh hc) (by unfold maxLen; omega) (by omega) (fun hh => absurd hh hc) (fun _ v' w' p1 p2 => ?_)
  obtain ⟨g1, c1, rfl, hg1, _⟩ := p1.form (by omega)
  have e : ints xs ++ [.int .i64 y] = ints (xs ++ [y]) := by simp [ints]
  rw [e] at p1
  exact h g1 c1 w' (by omega) (own_lower p1 hbs) (hb.grown p2 hbs (fun k hk => by cases hk))
def z4h : Array Value := #[.slice none 0 0, .slice none 0 0, .slice none 0 0, .int .i64 0]
structure Mk3 (w w2 : World) (B0 gR : Nat) (v v1 v2 : Value) (n : Nat) (mk : Int) : Prop where
  ex : ∃ h : Hn, h.n = n ∧ h.km = mk ∧ v = .slice h.a1 n h.c1 ∧ v1 = .slice h.a2 (n + 1) h.c2 ∧ v2 = .slice h.a3 (n + 1) h.c3 ∧ h.Ok w2 (fun q => B0 ≤ q ∧ q < w2.heap.size ∧ q ≠ gR)
  bel : Below B0 w w2
  blk : w2.heap[gR]? = some (.cells #[.slice none 0 0, .slice none 0 0, .slice none 0 0, .int .i64 0] 74 (0, 0))
theorem Mk3.out {w w2 V : World} {B0 gR : Nat} {v v1 v2 : Value} {n : Nat} {mk : Int} (h : Mk3 w w2 B0 gR v v1 v2 n mk) (hk : Kept w2 V (fun q => q = gR)) (hB : B0 ≤ w.heap.size) (hg : B0 ≤ gR) : ∃ h : Hn, Ending.returned (.agg #[v, v1, v2, .int .i64 mk]) = .returned (.agg h.cs.toArray) ∧ h.km = mk ∧ h.Ok V (fun q => B0 ≤ q ∧ q < V.heap.size) ∧ Below B0 w V := by
  obtain ⟨x, rfl, rfl, rfl, rfl, rfl, hOk⟩ := h.ex
  exact ⟨x, rfl, rfl, (hOk.keep hk (fun q hq e => hq.2.2 e)).sub (fun q hq => ⟨hq.1, Nat.lt_of_lt_of_le hq.2.1 hk.size⟩), h.bel.trans (hk.below (Nat.le_trans hB h.bel.size) (fun q hq e => by omega))⟩

set_option maxHeartbeats 4000000 in
theorem marked_any {B0 : Nat} {v : Value} {xs : List Int} (ho : w.ownsRow B0 3 1 v xs.length (ints xs)) (hx : xs.length ≤ 16) (hB0 : B0 ≤ w.heap.size) {mk : Int} (hm0 : 0 ≤ mk) (hm1 : mk ≤ 2000) :
    Calls Try.prog 36 #[v, .int .i64 mk] w fun e w' => ∃ h : Hn, e = .returned (.agg h.cs.toArray) ∧ h.km = mk ∧ h.Ok w' (fun q => B0 ≤ q ∧ q < w'.heap.size) ∧ Below B0 w w' := by
  obtain ⟨i0, hi, hz0, hz1, hz2⟩ := info_parts info_i
  obtain ⟨a, c, rfl⟩ := own_sliceD ho
  obtain ⟨n, hn⟩ : ∃ n, xs.length = n := ⟨_, rfl⟩
  rw [hn] at ho hx ⊢
  generalize hW : w.alloc (.cells #[.slice none 0 0, .slice none 0 0, .slice none 0 0, .int .i64 0] 74) = W
  have hbW : Below w.heap.size w W := by rw [← hW]; exact balloc (Below.refl _ w)
  have hblk : W.heap[w.heap.size]? = some (.cells #[.slice none 0 0, .slice none 0 0, .slice none 0 0, .int .i64 0] 74 (0, 0)) := by rw [← hW]; exact heap_alloc_new w _
  have HoW : Hid (W.ownsRow B0 3 1 (.slice a n c) n (ints xs)) := own_still ho hbW
  have HgR : Hid (∀ g off, a = some ⟨g, off, none⟩ → g < w.heap.size) := fun g off e => by
    subst e
    exact (World.ownsRow.lt ho g rfl).2
  obtain ⟨gR, hgR⟩ : ∃ gR, w.heap.size = gR := ⟨_, rfl⟩
  have HbW : Hid (Below B0 w W) := hbW.mono hB0
  have hB0w := hB0
  rw [hgR] at hblk HgR hB0
  have Hblk : Hid (W.heap[gR]? = some (.cells #[.slice none 0 0, .slice none 0 0, .slice none 0 0, .int .i64 0] 74 (0, 0))) := hblk
  have hgl := lt_heap hblk
  clear ho hbW hblk
  go_enter Try.func36, Try.ntmps36
  go_wp2_with fail
  clear hW
  try rw [hgR]
  clear hgR
  go_loopw [5] (fun q wr => ∃ k : Nat, k ≤ n ∧ q = .int .i64 (k : Int) ∧ Hid (wr.ownsRow B0 3 1 (.slice a n c) n (ints (mks k mk ++ xs.drop k))) ∧ Hid (Below B0 w wr) ∧ Hid (wr.heap[gR]? = some (.cells #[.slice none 0 0, .slice none 0 0, .slice none 0 0, .int .i64 0] 74 (0, 0)))) (fun q _ => n - (intOf q).toNat)
  case atStart => exact ⟨0, Nat.zero_le _, rfl, HoW, HbW, Hblk⟩
  case round =>
    obtain ⟨k, hk, rfl, HOk, HBk, HRk⟩ := hrel
    have hgRr := lt_heap HRk.out
    have hsB : B0 ≤ wr.heap.size := by omega
    by_cases hlt : k < n
    · obtain ⟨g, cap, hv, _, hgl⟩ := HOk.out.form (by omega)
      simp only [Value.slice.injEq, true_and] at hv
      obtain ⟨rfl, rfl⟩ := hv
      have hgg := HgR.out g 0 rfl
      obtain ⟨u, hu⟩ := row_room HOk.out (show k < c from Nat.lt_of_lt_of_le hlt (own_cap HOk.out))
      have f0 : wr.frozen? ⟨g, k, none⟩ = false := row_fzI HOk.out
      have i1 : (0 : Int) ≤ (k : Int) := Int.natCast_nonneg _
      have i2 : (k : Int) < (n : Int) := by omega
      have HO' : Hid ((wr.setCell ⟨g, k, none⟩ (.int .i64 mk)).ownsRow B0 3 1 (.slice (some ⟨g, 0, none⟩) n c) n (ints (mks (k + 1) mk ++ xs.drop (k + 1)))) := (show World.ownsRow _ _ _ _ _ _ _ from by
        have h1 := (World.ownsRow.stored HOk.out k (.int .i64 mk)).1
        have e : (ints (mks k mk ++ xs.drop k)).set k (.int .i64 mk) = ints (mks (k + 1) mk ++ xs.drop (k + 1)) := by
          unfold ints
          rw [← List.map_set, mks_set k mk xs (by omega)]
        rw [e] at h1
        exact h1)
      have hBg : B0 ≤ g := (World.ownsRow.lt HOk.out g rfl).1
      have HK : Hid (Kept wr (wr.setCell ⟨g, k, none⟩ (.int .i64 mk)) (fun q => q = g)) := ksetD _ _ _ _ rfl
      have HB' : Hid (Below B0 w (wr.setCell ⟨g, k, none⟩ (.int .i64 mk))) := HBk.out.trans (HK.out.below hsB (fun q hq e => by omega))
      have HR' : Hid ((wr.setCell ⟨g, k, none⟩ (.int .i64 mk)).heap[gR]? = some (.cells #[.slice none 0 0, .slice none 0 0, .slice none 0 0, .int .i64 0] 74 (0, 0))) := HK.out.obj HRk.out (by omega)
      clear HOk HBk HRk HK
      go_wp2
      go_roundw
      case rel => exact ⟨k + 1, by omega, by go_num, HO', HB', HR'⟩
      case measure => simp [intOf]; omega
    · obtain rfl : n = k := by omega
      have hdr : mks n mk ++ xs.drop n = mks n mk := by rw [List.drop_of_length_le (by omega), List.append_nil]
      rw [hdr] at HOk
      rcases HOk.out.2 with ⟨hnil, h0⟩ | ⟨g, cap, cur, hv, hBg, _, hcap, _, _, _⟩
      · simp only [Value.slice.injEq] at hnil
        obtain ⟨rfl, rfl, rfl⟩ := hnil
        have HZ : Hid (wr.ownsRow B0 3 1 (.slice none 0 0) 0 []) := ⟨rfl, .inl ⟨rfl, rfl⟩⟩
        go_wp2_with (first | (at_builtin; refine wpList_append_lies _ rfl _ _ 25 rfl B0 3 i0 (.int .i64 0) 1 8 Try.underlying25 hi hz0 hz1 hz2 rfl (by decide) _ 0 [] rfl (World.ownsRow.alloc HZ.out _) ⟨wr.heap.size, 0, none⟩ 1 1 [.int .i64 (mk + 1)] rfl rfl (cell_one_new _ _ _) (by intro u hu; simp at hu; subst hu; rfl) (by decide) (by unfold maxLen; omega) (by omega) (by simp; omega) _ rfl ?_) | fail)
        intro g1 c1 w1 h1 h2 h3 h4
        have hb1 : Below wr.heap.size wr w1 := (balloc (Below.refl _ _)).grown h2 (by simp) (fun k hk => by simp [Value.ownBlock] at hk)
        have HO1 : Hid (w1.ownsRow B0 3 1 (.slice (some ⟨g1, 0, none⟩) 1 c1) 1 (ints (mks 0 mk ++ [mk + 1]))) := h1
        have hg1 : g1 ≠ gR ∧ B0 ≤ g1 := by
          have := (World.ownsRow.lt h1 g1 rfl).1
          rcases h3 with e | e
          · simp [Value.ownBlock] at e
          · first | omega | (simp at e; omega)
        have HB1 : Hid (Below wr.heap.size wr w1) := hb1
        have HZ1 : Hid (w1.ownsRow B0 3 1 (.slice none 0 0) 0 []) := ⟨rfl, .inl ⟨rfl, rfl⟩⟩
        have hs1 := hb1.size
        clear h1 h2 h3 hb1 HZ
        go_wp2_with (first | (at_builtin; refine wpList_append_lies _ rfl _ _ 25 rfl B0 3 i0 (.int .i64 0) 1 8 Try.underlying25 hi hz0 hz1 hz2 rfl (by decide) _ 0 [] rfl (World.ownsRow.alloc HZ1.out _) ⟨w1.heap.size, 0, none⟩ 1 1 [.int .i64 (mk + 1)] rfl rfl (cell_one_new _ _ _) (by intro u hu; simp at hu; subst hu; rfl) (by decide) (by unfold maxLen; omega) (by omega) (by simp; omega) _ rfl ?_) | fail)
        intro g2 c2 W2 h1 h2 h3 h5
        have hb2 : Below w1.heap.size w1 W2 := (balloc (Below.refl _ _)).grown h2 (by simp) (fun k hk => by simp [Value.ownBlock] at hk)
        have hg2 : g2 ≠ gR ∧ B0 ≤ g2 := by
          have := (World.ownsRow.lt h1 g2 rfl).1
          rcases h3 with e | e
          · simp [Value.ownBlock] at e
          · first | omega | (simp at e; omega)
        have hs2 := hb2.size
        have hM : Mk3 w W2 B0 gR (.slice none 0 0) (.slice (some ⟨g1, 0, none⟩) (0 + 1) c1) (.slice (some ⟨g2, 0, none⟩) (0 + 1) c2) 0 mk := ⟨⟨⟨none, some ⟨g1, 0, none⟩, some ⟨g2, 0, none⟩, 0, 0, c1, c2, mk⟩, rfl, rfl, rfl, rfl, rfl, ⟨⟨rfl, .inl rfl⟩, own_rd (own_still HO1.out hb2), own_rd (xs := mks 0 mk ++ [mk + 1]) h1, fun b off e => by simp at e, fun b off e => by simp at e; obtain ⟨rfl, _⟩ := e; exact ⟨hg1.2, by omega, hg1.1⟩, fun b off e => by simp at e; obtain ⟨rfl, _⟩ := e; exact ⟨hg2.2, h5, hg2.1⟩, by simp, hm0, hm1⟩⟩, (HBk.out.trans (HB1.out.mono hsB)).trans (hb2.mono (by omega)), (hb2.block _ (by omega)).trans ((HB1.out.block _ hgRr).trans HRk.out)⟩
        clear h1 h2 h3 h5 hb2 HO1 HZ1 HB1 HRk HBk HOk
        simp only [Nat.zero_add] at hM ⊢
        have HM2 : Hid (Mk3 w W2 B0 gR (.slice none 0 0) (.slice (some ⟨g1, 0, none⟩) (1) c1) (.slice (some ⟨g2, 0, none⟩) (1) c2) 0 mk) := hM
        have hk2 := hM.blk
        have q0 := blk_cell hk2 0
        have q1 := blk_cell hk2 1
        have q2 := blk_cell hk2 2
        have q3 := blk_cell hk2 3
        have z0 := frozen_of_row W2 _ 0 _ _ hk2
        have z1 := frozen_of_row W2 _ 1 _ _ hk2
        have z2 := frozen_of_row W2 _ 2 _ _ hk2
        have z3 := frozen_of_row W2 _ 3 _ _ hk2
        have hbR := lt_heap hk2
        have Hk2 : Hid (W2.heap[gR]? = some (.cells #[.slice none 0 0, .slice none 0 0, .slice none 0 0, .int .i64 0] 74 (0, 0))) := hk2
        clear hM hk2
        go_wp2
        have b1 : ((((W2.setCell ⟨gR, 0, none⟩ (.slice none 0 0)).setCell ⟨gR, 1, none⟩ (.slice (some ⟨g1, 0, none⟩) (1) c1)).setCell ⟨gR, 2, none⟩ (.slice (some ⟨g2, 0, none⟩) (1) c2)).setCell ⟨gR, 3, none⟩ (.int .i64 mk)).heap[gR]? = some (.cells #[.slice none 0 0, .slice (some ⟨g1, 0, none⟩) (1) c1, .slice (some ⟨g2, 0, none⟩) (1) c2, .int .i64 mk] 74 (0, 0)) := blk_set (blk_set (blk_set (blk_set Hk2.out rfl) rfl) rfl) rfl
        have k1 : Kept W2 ((((W2.setCell ⟨gR, 0, none⟩ (.slice none 0 0)).setCell ⟨gR, 1, none⟩ (.slice (some ⟨g1, 0, none⟩) (1) c1)).setCell ⟨gR, 2, none⟩ (.slice (some ⟨g2, 0, none⟩) (1) c2)).setCell ⟨gR, 3, none⟩ (.int .i64 mk)) (fun q => q = gR) := (((ksetD (P := fun q => q = gR) _ _ _ _ rfl).trans (ksetD _ _ _ _ rfl)).trans (ksetD _ _ _ _ rfl)).trans (ksetD _ _ _ _ rfl)
        generalize ((((W2.setCell ⟨gR, 0, none⟩ (.slice none 0 0)).setCell ⟨gR, 1, none⟩ (.slice (some ⟨g1, 0, none⟩) (1) c1)).setCell ⟨gR, 2, none⟩ (.slice (some ⟨g2, 0, none⟩) (1) c2)).setCell ⟨gR, 3, none⟩ (.int .i64 mk)) = V at *
        have r0 := blk_cell b1 0
        have r1 := blk_cell b1 1
        have r2 := blk_cell b1 2
        have r3 := blk_cell b1 3
        exact bodyPost_ret (v := .agg #[.slice none 0 0, .slice (some ⟨g1, 0, none⟩) (1) c1, .slice (some ⟨g2, 0, none⟩) (1) c2, .int .i64 mk]) (by simp [results, Try.results36, go_sem, r0, r1, r2, r3]) rfl (HM2.out.out k1 hB0w hB0)
      · simp only [Value.slice.injEq, true_and] at hv
        obtain ⟨rfl, rfl⟩ := hv
        have hgg := HgR.out g 0 rfl
        by_cases hroom : n + 1 ≤ c
        · skip
          go_wp2_with (first | (at_builtin; refine wl_roomI rfl _ _ rfl wr (mk + 1) rfl B0 g n c (mks n mk) rfl HOk.out hroom rfl (by omega) ?_) | fail)
          intro w1 p1 p2 p3
          have HP1 : Hid (w1.ownsRow B0 3 1 (.slice (some ⟨g, 0, none⟩) n c) n (ints (mks n mk))) := p1
          have HK1 : Hid (Kept wr w1 (fun q => q = g)) := p3
          have hs1 := HK1.out.size
          clear p1 p2 p3
          go_wp2_with (first | (at_builtin; refine wl_roomI rfl _ _ rfl w1 (mk + 1) rfl B0 g n c (mks n mk) rfl HP1.out hroom rfl (by omega) ?_) | fail)
          intro W2 r1 r2 r3
          have HK2 : Hid (Kept wr W2 (fun q => q = g)) := HK1.out.trans r3
          have hs2 := HK2.out.size
          have hg2 := (World.ownsRow.lt r1 g rfl).2
          have hIn : InA (some ⟨g, 0, none⟩) (fun q => B0 ≤ q ∧ q < W2.heap.size ∧ q ≠ gR) := fun b off e => by simp at e; obtain ⟨rfl, _⟩ := e; exact ⟨hBg, hg2, by omega⟩
          have hM : Mk3 w W2 B0 gR (.slice (some ⟨g, 0, none⟩) n c) (.slice (some ⟨g, 0, none⟩) (n + 1) c) (.slice (some ⟨g, 0, none⟩) (n + 1) c) n mk := ⟨⟨⟨some ⟨g, 0, none⟩, some ⟨g, 0, none⟩, some ⟨g, 0, none⟩, n, c, c, c, mk⟩, rfl, rfl, rfl, rfl, rfl, ⟨own_rd r1, own_rd r2, own_rd r2, hIn, hIn, hIn, hx, hm0, hm1⟩⟩, HBk.out.trans (HK2.out.below hsB (fun q hq e => by omega)), HK2.out.obj HRk.out (by omega)⟩
          clear r1 r2 r3 HP1 HK1 HK2 HRk HBk HOk hIn
          have HM2 : Hid (Mk3 w W2 B0 gR (.slice (some ⟨g, 0, none⟩) n c) (.slice (some ⟨g, 0, none⟩) (n + 1) c) (.slice (some ⟨g, 0, none⟩) (n + 1) c) n mk) := hM
          have hk2 := hM.blk
          have q0 := blk_cell hk2 0
          have q1 := blk_cell hk2 1
          have q2 := blk_cell hk2 2
          have q3 := blk_cell hk2 3
          have z0 := frozen_of_row W2 _ 0 _ _ hk2
          have z1 := frozen_of_row W2 _ 1 _ _ hk2
          have z2 := frozen_of_row W2 _ 2 _ _ hk2
          have z3 := frozen_of_row W2 _ 3 _ _ hk2
          have hbR := lt_heap hk2
          have Hk2 : Hid (W2.heap[gR]? = some (.cells #[.slice none 0 0, .slice none 0 0, .slice none 0 0, .int .i64 0] 74 (0, 0))) := hk2
          clear hM hk2
          go_wp2
          have b1 : ((((W2.setCell ⟨gR, 0, none⟩ (.slice (some ⟨g, 0, none⟩) n c)).setCell ⟨gR, 1, none⟩ (.slice (some ⟨g, 0, none⟩) (n + 1) c)).setCell ⟨gR, 2, none⟩ (.slice (some ⟨g, 0, none⟩) (n + 1) c)).setCell ⟨gR, 3, none⟩ (.int .i64 mk)).heap[gR]? = some (.cells #[.slice (some ⟨g, 0, none⟩) n c, .slice (some ⟨g, 0, none⟩) (n + 1) c, .slice (some ⟨g, 0, none⟩) (n + 1) c, .int .i64 mk] 74 (0, 0)) := blk_set (blk_set (blk_set (blk_set Hk2.out rfl) rfl) rfl) rfl
          have k1 : Kept W2 ((((W2.setCell ⟨gR, 0, none⟩ (.slice (some ⟨g, 0, none⟩) n c)).setCell ⟨gR, 1, none⟩ (.slice (some ⟨g, 0, none⟩) (n + 1) c)).setCell ⟨gR, 2, none⟩ (.slice (some ⟨g, 0, none⟩) (n + 1) c)).setCell ⟨gR, 3, none⟩ (.int .i64 mk)) (fun q => q = gR) := (((ksetD (P := fun q => q = gR) _ _ _ _ rfl).trans (ksetD _ _ _ _ rfl)).trans (ksetD _ _ _ _ rfl)).trans (ksetD _ _ _ _ rfl)
          generalize ((((W2.setCell ⟨gR, 0, none⟩ (.slice (some ⟨g, 0, none⟩) n c)).setCell ⟨gR, 1, none⟩ (.slice (some ⟨g, 0, none⟩) (n + 1) c)).setCell ⟨gR, 2, none⟩ (.slice (some ⟨g, 0, none⟩) (n + 1) c)).setCell ⟨gR, 3, none⟩ (.int .i64 mk)) = V at *
          have r0 := blk_cell b1 0
          have r1 := blk_cell b1 1
          have r2 := blk_cell b1 2
          have r3 := blk_cell b1 3
          exact bodyPost_ret (v := .agg #[.slice (some ⟨g, 0, none⟩) n c, .slice (some ⟨g, 0, none⟩) (n + 1) c, .slice (some ⟨g, 0, none⟩) (n + 1) c, .int .i64 mk]) (by simp [results, Try.results36, go_sem, r0, r1, r2, r3]) rfl (HM2.out.out k1 hB0w hB0)
        · skip
          go_wp2_with (first | (at_builtin; refine wl_fullI rfl _ _ rfl wr (mk + 1) rfl B0 g n c (mks n mk) rfl HOk.out hroom rfl (by omega) ?_) | fail)
          intro g1 c1 w1 p0 p1 p3
          have hg1l := (World.ownsRow.lt p1 g1 rfl).2
          have HO1 : Hid (w1.ownsRow B0 3 1 (.slice (some ⟨g1, 0, none⟩) (n + 1) c1) (n + 1) (ints (mks n mk ++ [mk + 1]))) := own_lower p1 hsB
          have HP1 : Hid (w1.ownsRow B0 3 1 (.slice (some ⟨g, 0, none⟩) n c) n (ints (mks n mk))) := own_still HOk.out p3
          have HB1 : Hid (Below wr.heap.size wr w1) := p3
          have hs1 := p3.size
          clear p1 p3
          go_wp2_with (first | (at_builtin; refine wl_fullI rfl _ _ rfl w1 (mk + 1) rfl B0 g n c (mks n mk) rfl HP1.out hroom rfl (by omega) ?_) | fail)
          intro g2 c2 W2 r0 r1 r3
          have hg2l := (World.ownsRow.lt r1 g2 rfl).2
          have hO2 : W2.ownsRow B0 3 1 (.slice (some ⟨g2, 0, none⟩) (n + 1) c2) (n + 1) (ints (mks n mk ++ [mk + 1])) := own_lower r1 (by omega)
          have hs2 := r3.size
          have hM : Mk3 w W2 B0 gR (.slice (some ⟨g, 0, none⟩) n c) (.slice (some ⟨g1, 0, none⟩) (n + 1) c1) (.slice (some ⟨g2, 0, none⟩) (n + 1) c2) n mk := ⟨⟨⟨some ⟨g, 0, none⟩, some ⟨g1, 0, none⟩, some ⟨g2, 0, none⟩, n, c, c1, c2, mk⟩, rfl, rfl, rfl, rfl, rfl, ⟨own_rd (own_still HP1.out r3), own_rd (own_still HO1.out r3), own_rd hO2, fun b off e => by simp at e; obtain ⟨rfl, _⟩ := e; exact ⟨hBg, by omega, by omega⟩, fun b off e => by simp at e; obtain ⟨rfl, _⟩ := e; exact ⟨by omega, by omega, by omega⟩, fun b off e => by simp at e; obtain ⟨rfl, _⟩ := e; exact ⟨by omega, by omega, by omega⟩, hx, hm0, hm1⟩⟩, (HBk.out.trans (HB1.out.mono hsB)).trans (r3.mono (by omega)), (r3.block _ (by omega)).trans ((HB1.out.block _ hgRr).trans HRk.out)⟩
          clear r1 r3 hO2 HP1 HO1 HB1 HRk HBk HOk
          have HM2 : Hid (Mk3 w W2 B0 gR (.slice (some ⟨g, 0, none⟩) n c) (.slice (some ⟨g1, 0, none⟩) (n + 1) c1) (.slice (some ⟨g2, 0, none⟩) (n + 1) c2) n mk) := hM
          have hk2 := hM.blk
          have q0 := blk_cell hk2 0
          have q1 := blk_cell hk2 1
          have q2 := blk_cell hk2 2
          have q3 := blk_cell hk2 3
          have z0 := frozen_of_row W2 _ 0 _ _ hk2
          have z1 := frozen_of_row W2 _ 1 _ _ hk2
          have z2 := frozen_of_row W2 _ 2 _ _ hk2
          have z3 := frozen_of_row W2 _ 3 _ _ hk2
          have hbR := lt_heap hk2
          have Hk2 : Hid (W2.heap[gR]? = some (.cells #[.slice none 0 0, .slice none 0 0, .slice none 0 0, .int .i64 0] 74 (0, 0))) := hk2
          clear hM hk2
          go_wp2
          have b1 : ((((W2.setCell ⟨gR, 0, none⟩ (.slice (some ⟨g, 0, none⟩) n c)).setCell ⟨gR, 1, none⟩ (.slice (some ⟨g1, 0, none⟩) (n + 1) c1)).setCell ⟨gR, 2, none⟩ (.slice (some ⟨g2, 0, none⟩) (n + 1) c2)).setCell ⟨gR, 3, none⟩ (.int .i64 mk)).heap[gR]? = some (.cells #[.slice (some ⟨g, 0, none⟩) n c, .slice (some ⟨g1, 0, none⟩) (n + 1) c1, .slice (some ⟨g2, 0, none⟩) (n + 1) c2, .int .i64 mk] 74 (0, 0)) := blk_set (blk_set (blk_set (blk_set Hk2.out rfl) rfl) rfl) rfl
          have k1 : Kept W2 ((((W2.setCell ⟨gR, 0, none⟩ (.slice (some ⟨g, 0, none⟩) n c)).setCell ⟨gR, 1, none⟩ (.slice (some ⟨g1, 0, none⟩) (n + 1) c1)).setCell ⟨gR, 2, none⟩ (.slice (some ⟨g2, 0, none⟩) (n + 1) c2)).setCell ⟨gR, 3, none⟩ (.int .i64 mk)) (fun q => q = gR) := (((ksetD (P := fun q => q = gR) _ _ _ _ rfl).trans (ksetD _ _ _ _ rfl)).trans (ksetD _ _ _ _ rfl)).trans (ksetD _ _ _ _ rfl)
          generalize ((((W2.setCell ⟨gR, 0, none⟩ (.slice (some ⟨g, 0, none⟩) n c)).setCell ⟨gR, 1, none⟩ (.slice (some ⟨g1, 0, none⟩) (n + 1) c1)).setCell ⟨gR, 2, none⟩ (.slice (some ⟨g2, 0, none⟩) (n + 1) c2)).setCell ⟨gR, 3, none⟩ (.int .i64 mk)) = V at *
          have r0 := blk_cell b1 0
          have r1 := blk_cell b1 1
          have r2 := blk_cell b1 2
          have r3 := blk_cell b1 3
          exact bodyPost_ret (v := .agg #[.slice (some ⟨g, 0, none⟩) n c, .slice (some ⟨g1, 0, none⟩) (n + 1) c1, .slice (some ⟨g2, 0, none⟩) (n + 1) c2, .int .i64 mk]) (by simp [results, Try.results36, go_sem, r0, r1, r2, r3]) rfl (HM2.out.out k1 hB0w hB0)

set_option maxHeartbeats 4000000 in
theorem still_any {h : Hn} {F : Nat → Prop} (hOk : h.Ok w F) : Calls Try.prog 37 #[.agg #[.slice h.a1 h.n h.c1, .slice h.a2 (h.n + 1) h.c2, .slice h.a3 (h.n + 1) h.c3, .int .i64 h.km]] w fun e w' => e = .returned (.bool true) ∧ Below w.heap.size w w' := by
  obtain ⟨a1, a2, a3, n, c1, c2, c3, mk⟩ := h
  have hr1 := hOk.r1
  have hr2 := hOk.r2
  have hr3 := hOk.r3
  have hnn := hOk.nn
  have hm0 := hOk.m0
  have hm1 := hOk.m1
  clear hOk
  simp only at hr1 hr2 hr3 hnn hm0 hm1 ⊢
  generalize hW : w.alloc (.cells #[.slice a1 n c1, .slice a2 (n + 1) c2, .slice a3 (n + 1) c3, .int .i64 mk] 74) = W
  have hbW : Below w.heap.size w W := by rw [← hW]; exact balloc (Below.refl _ w)
  have hblk : W.heap[w.heap.size]? = some (.cells #[.slice a1 n c1, .slice a2 (n + 1) c2, .slice a3 (n + 1) c3, .int .i64 mk] 74 (0, 0)) := by rw [← hW]; exact heap_alloc_new w _
  have e0 : W.cell? ⟨w.heap.size, 0, none⟩ = some (.slice a1 n c1) := blk_cell hblk 0
  have e1 : W.cell? ⟨w.heap.size, 1, none⟩ = some (.slice a2 (n + 1) c2) := blk_cell hblk 1
  have e2 : W.cell? ⟨w.heap.size, 2, none⟩ = some (.slice a3 (n + 1) c3) := blk_cell hblk 2
  have e3 : W.cell? ⟨w.heap.size, 3, none⟩ = some (.int .i64 mk) := blk_cell hblk 3
  have H1 : Hid (RdI W a1 n (mks n mk)) := hr1.still hbW
  obtain ⟨b2, o2, rfl, p2⟩ := (hr2.still hbW).at (i := n) (by omega)
  obtain ⟨b3, o3, rfl, p3⟩ := (hr3.still hbW).at (i := n) (by omega)
  have en : (mks n mk ++ [mk + 1]).getD n 0 = mk + 1 := by simp [List.getD, mks]
  rw [en] at p2 p3
  have HbW : Hid (Below w.heap.size w W) := hbW
  obtain ⟨gR, hgR⟩ : ∃ gR, w.heap.size = gR := ⟨_, rfl⟩
  rw [hgR] at e0 e1 e2 e3
  have HE : Hid (W.cell? ⟨gR, 0, none⟩ = some (.slice a1 n c1) ∧ W.cell? ⟨gR, 1, none⟩ = some (.slice (some ⟨b2, o2, none⟩) (n + 1) c2) ∧ W.cell? ⟨gR, 2, none⟩ = some (.slice (some ⟨b3, o3, none⟩) (n + 1) c3) ∧ W.cell? ⟨gR, 3, none⟩ = some (.int .i64 mk) ∧ W.cell? ⟨b2, o2 + n, none⟩ = some (.int .i64 (mk + 1)) ∧ W.cell? ⟨b3, o3 + n, none⟩ = some (.int .i64 (mk + 1))) := ⟨e0, e1, e2, e3, p2, p3⟩
  clear hblk hbW hr1 hr2 hr3 en e0 e1 e2 e3 p2 p3
  go_enter Try.func37, Try.ntmps37
  go_wp2_with fail
  clear hW
  try rw [hgR]
  have HgE : Hid (w.heap.size = gR) := hgR
  clear hgR
  go_loopw [3] (fun q wr => ∃ k : Nat, k ≤ n ∧ q = .int .i64 (k : Int) ∧ Hid (Below W.heap.size W wr)) (fun q _ => n - (intOf q).toNat)
  case atStart => exact ⟨0, Nat.zero_le _, rfl, Below.refl _ _⟩
  case round =>
    obtain ⟨k, hk, rfl, HBk⟩ := hrel
    have x0 := below_at HBk.out HE.out.1
    have x3 := below_at HBk.out HE.out.2.2.2.1
    by_cases hlt : k < n
    · obtain ⟨b1, o1, rfl, p1⟩ := (H1.out.still HBk.out).at hlt
      rw [mks_at n mk k hlt] at p1
      have i1 : (0 : Int) ≤ (k : Int) := Int.natCast_nonneg _
      have i2 : (k : Int) < (n : Int) := by omega
      go_wp2_with fail
      go_quiet (fail)
      go_wp2
      go_roundw
      case rel => exact ⟨k + 1, by omega, by go_num, below_drewN HBk.out _⟩
      case measure => simp [intOf]; omega
    · obtain rfl : n = k := by omega
      have x1 := below_at HBk.out HE.out.2.1
      have x2 := below_at HBk.out HE.out.2.2.1
      have y2 := below_at HBk.out HE.out.2.2.2.2.1
      have y3 := below_at HBk.out HE.out.2.2.2.2.2
      have i1 : (0 : Int) ≤ (n : Int) := Int.natCast_nonneg _
      go_wp2_with fail
      go_quiet (fail)
      go_wp2
      go_ret
      exact ⟨rfl, bstep HbW.out (below_drewN HBk.out _)⟩
end
end Go.Proofs.Ytcodpjblmeckkaa.Dt
