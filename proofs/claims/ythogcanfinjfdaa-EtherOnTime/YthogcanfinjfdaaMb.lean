import Derived.Test.YthogcanfinjfdaaMa
import Derived.Laws.CopyOwn
import Derived.Deep.RegionLaw
namespace Go.Proofs.Ythogcanfinjfdaa.Et
open Go.RowKit Go.Maps
set_option linter.unusedVariables false
set_option linter.unusedSimpArgs false
set_option maxRecDepth 100000
section
variable {E E' : En} {w w' W : World} {B m : Nat}

set_option maxHeartbeats 400000 in
theorem split_len (h : E.Ok w B m) (ao : Option Addr) (n c : Nat) (hn : n ≠ E.nn) : Calls Try.prog 39 #[.pointer (some ⟨E.b, 0, none⟩), .slice ao n c] w fun e w' => e = .returned (.int .i64 1) ∧ w = w' := by
  have c1 := h.c1
  have hne : ¬ (n : Int) = (E.nn : Int) := by omega
  clear h
  go_enter Try.func39, Try.ntmps39
  go_wp2
  go_ret
  exact ⟨rfl, rfl⟩

def okSide (x : Int) : Prop := 0 ≤ x ∧ x < 16

set_option maxHeartbeats 1000000 in
theorem split_bad (h : E.Ok w B m) (sb off c : Nat) (xs : List Int) (hn : xs.length = E.nn) (hs : ∀ i, i < E.nn → w.cell? ⟨sb, off + i, none⟩ = some (.int .i64 (xs.getD i 0))) (i0 : Nat) (hi0 : i0 < E.nn) (hbad : ¬ okSide (xs.getD i0 0)) : Calls Try.prog 39 #[.pointer (some ⟨E.b, 0, none⟩), .slice (some ⟨sb, off, none⟩) E.nn c] w fun e w' => e = .returned (.int .i64 1) ∧ w = w' := by
  have c1 := h.c1
  have hn16 := h.n16
  have Hs : Hid (∀ i, i < E.nn → w.cell? ⟨sb, off + i, none⟩ = some (.int .i64 (xs.getD i 0))) := hs
  clear h hs
  go_enter Try.func39, Try.ntmps39
  go_wp2
  go_loopw [21] (fun i wr => ∃ k : Nat, k ≤ E.nn ∧ i = .int .i64 k ∧ w = wr ∧ ∀ j, j < k → okSide (xs.getD j 0)) (fun i _ => E.nn - (intOf i).toNat)
  case atStart => exact ⟨0, Nat.zero_le _, rfl, rfl, fun j hj => by omega⟩
  case round =>
    obtain ⟨k, hk, rfl, rfl, hok⟩ := hrel
    by_cases hlt : k < E.nn
    · have hck := Hs.out k hlt
      by_cases hx : okSide (xs.getD k 0)
      · have hok1 : Hid (∀ j, j < k + 1 → okSide (xs.getD j 0)) := fun j hj => by
          by_cases e : j = k
          · subst e; exact hx
          · exact hok j (by omega)
        obtain ⟨x0, x1⟩ := hx
        generalize xs.getD k 0 = X at hck x0 x1
        clear hok hbad
        go_wp2
        go_roundw
        case rel => exact ⟨k + 1, by omega, by go_num, by first | rfl | trivial, hok1.out⟩
        case measure => simp [intOf]; omega
      · have hx : xs.getD k 0 < 0 ∨ 16 ≤ xs.getD k 0 := by unfold okSide at hx; omega
        generalize xs.getD k 0 = X at hck hx
        clear hok hbad
        go_wp2
        all_goals first | (exfalso; omega) | (go_ret; exact ⟨rfl, rfl⟩)
    · exfalso
      exact hbad (hok i0 (by omega))

def spl (f : Nat → Nat → Bool) (xs : List Int) (nn i j : Nat) : Nat → Nat → Bool := fun a b => if (a < i ∨ (a = i ∧ b < j)) ∧ b < nn ∧ a ≠ b then decide (xs.getD a 0 ≠ xs.getD b 0) else f a b
theorem spl_start (f : Nat → Nat → Bool) (xs : List Int) (nn : Nat) : spl f xs nn 0 0 = f := by
  funext a b
  simp [spl]
theorem spl_row (f : Nat → Nat → Bool) (xs : List Int) (nn i : Nat) : spl f xs nn i nn = spl f xs nn (i + 1) 0 := by
  funext a b
  unfold spl
  by_cases e : (a < i ∨ (a = i ∧ b < nn)) ∧ b < nn ∧ a ≠ b
  · rw [if_pos e, if_pos (by omega)]
  · rw [if_neg e, if_neg (by omega)]
theorem spl_diag (f : Nat → Nat → Bool) (xs : List Int) (nn i : Nat) : spl f xs nn i (i + 1) = spl f xs nn i i := by
  funext a b
  unfold spl
  by_cases e : (a < i ∨ (a = i ∧ b < i)) ∧ b < nn ∧ a ≠ b
  · rw [if_pos e, if_pos (by omega)]
  · rw [if_neg e, if_neg (by omega)]
theorem spl_next (f : Nat → Nat → Bool) (xs : List Int) (nn i j : Nat) (hne : i ≠ j) (hj : j < nn) : upd2 (spl f xs nn i j) i j (!decide (xs.getD i 0 = xs.getD j 0)) = spl f xs nn i (j + 1) := by
  funext a b
  unfold upd2
  by_cases e : a = i ∧ b = j
  · obtain ⟨rfl, rfl⟩ := e
    rw [if_pos ⟨rfl, rfl⟩]
    unfold spl
    rw [if_pos (by omega)]
    simp
  · rw [if_neg e]
    unfold spl
    by_cases e2 : (a < i ∨ (a = i ∧ b < j)) ∧ b < nn ∧ a ≠ b
    · rw [if_pos e2, if_pos (by omega)]
    · rw [if_neg e2, if_neg (by omega)]

theorem own_cut {E : En} {f : Nat → Nat → Bool} {j : Nat} : ({ E with cut := f } : En).own j ↔ E.own j := Iff.rfl
theorem Step.cell {w w' : World} {E E' : En} {B m : Nat} (s : Step w w' E E' B m) {k i : Nat} {v : Value} (hk : ¬ E.own k) (hc : w.cell? ⟨k, i, none⟩ = some v) : w'.cell? ⟨k, i, none⟩ = some v :=
  (World.cell?_of_block (w := w) (s.kept.block k (World.block_lt_of_cell? w _ hc) hk)).trans hc

set_option maxHeartbeats 4000000 in
theorem split_ok (h : E.Ok w B m) (sb off c : Nat) (xs : List Int) (hn : xs.length = E.nn) (hs : ∀ i, i < E.nn → w.cell? ⟨sb, off + i, none⟩ = some (.int .i64 (xs.getD i 0))) (hsb : ¬ E.own sb) (hok : ∀ i, i < E.nn → okSide (xs.getD i 0)) (hm : m + 256 < maxLen) : Calls Try.prog 39 #[.pointer (some ⟨E.b, 0, none⟩), .slice (some ⟨sb, off, none⟩) E.nn c] w fun e w' => e = .returned (.int .i64 0) ∧ Step w w' E { E with cut := spl E.cut xs E.nn E.nn 0 } B (m + 256) := by
  have c1 := h.c1
  have hn16 := h.n16
  have Hs : Hid (∀ i, i < E.nn → w.cell? ⟨sb, off + i, none⟩ = some (.int .i64 (xs.getD i 0))) := hs
  have Hok : Hid (∀ i, i < E.nn → okSide (xs.getD i 0)) := hok
  have H0 : Hid (Step w w E { E with cut := spl E.cut xs E.nn 0 0 } B m) := by
    rw [spl_start]
    exact Step.same h
  clear h hs hok
  go_enter Try.func39, Try.ntmps39
  go_wp2
  go_loopw [21] (fun i wr => ∃ k : Nat, k ≤ E.nn ∧ i = .int .i64 k ∧ w = wr) (fun i _ => E.nn - (intOf i).toNat)
  case atStart => exact ⟨0, Nat.zero_le _, rfl, rfl⟩
  case round =>
    obtain ⟨k, hk, rfl, rfl⟩ := hrel
    by_cases hlt : k < E.nn
    · have hck := Hs.out k hlt
      obtain ⟨x0, x1⟩ := Hok.out k hlt
      generalize xs.getD k 0 = X at hck x0 x1
      go_wp2
      go_roundw
      case rel => exact ⟨k + 1, by omega, by go_num, by first | rfl | trivial⟩
      case measure => simp [intOf]; omega
    · obtain rfl : k = E.nn := by omega
      go_wp2
      clear Hok
      go_loopw [34] (fun i wr => ∃ k : Nat, k ≤ E.nn ∧ i = .int .i64 k ∧ Step w wr E { E with cut := spl E.cut xs E.nn k 0 } B (m + 16 * k)) (fun i _ => E.nn - (intOf i).toNat)
      case atStart => exact ⟨0, Nat.zero_le _, rfl, H0.out⟩
      case round =>
        obtain ⟨k, hk, rfl, hst⟩ := hrel
        have HS : Hid (Step w wr E { E with cut := spl E.cut xs E.nn k 0 } B (m + 16 * k)) := hst
        clear hst
        by_cases hlt : k < E.nn
        · have hck := HS.out.cell hsb (Hs.out k hlt)
          generalize hX : xs.getD k 0 = X at hck
          go_wp2
          go_loopw [41] (fun i wr => ∃ j : Nat, j ≤ E.nn ∧ i = .int .i64 j ∧ Step w wr E { E with cut := spl E.cut xs E.nn k j } B (m + 16 * k + j)) (fun i _ => E.nn - (intOf i).toNat)
          case atStart => exact ⟨0, Nat.zero_le _, rfl, HS.out⟩
          case round =>
            obtain ⟨j, hj, rfl, hst2⟩ := hrel
            clear HS hck
            have HS2 : Hid (Step w wr E { E with cut := spl E.cut xs E.nn k j } B (m + 16 * k + j)) := hst2
            clear hst2
            by_cases hjlt : j < E.nn
            · have hcj := HS2.out.cell hsb (Hs.out j hjlt)
              generalize hY : xs.getD j 0 = Y at hcj
              by_cases hkj : k = j
              · have HS3 : Hid (Step w wr E { E with cut := spl E.cut xs E.nn k (j + 1) } B (m + 16 * k + (j + 1))) := by
                  have := HS2.out
                  subst hkj
                  rw [← spl_diag] at this
                  exact ⟨this.ok.mono (by omega), this.kept, this.own⟩
                clear HS2
                have hkj' : (k : Int) = (j : Int) := by omega
                go_wp2
                go_roundw
                case rel => exact ⟨j + 1, by omega, by go_num, HS3.out⟩
                case measure => simp [intOf]; omega
              · have hkj' : ¬ (k : Int) = (j : Int) := by omega
                have HO := fun o => setOpen_any HS2.out.ok k j (by omega) (by omega) o (by omega)
                go_wp2_with (first | (go_at_call 63; refine (HO _).mono ?_; rintro e w3 ⟨rfl, hs3⟩) | fail)
                have HS3 : Hid (Step w w3 E { E with cut := spl E.cut xs E.nn k (j + 1) } B (m + 16 * k + (j + 1))) := by
                  have := HS2.out.trans hs3
                  rw [← spl_next E.cut xs E.nn k j hkj hjlt, hX, hY]
                  have e1 : (X == Y) = decide (X = Y) := by by_cases e : X = Y <;> simp [e]
                  rw [← e1]
                  exact this
                clear hs3 HO HS2
                go_roundw
                case rel => exact ⟨j + 1, by omega, by go_num, HS3.out⟩
                case measure => simp [intOf]; omega
            · obtain rfl : j = E.nn := by omega
              have HS3 : Hid (Step w wr E { E with cut := spl E.cut xs E.nn (k + 1) 0 } B (m + 16 * (k + 1))) := by
                have := HS2.out
                rw [spl_row] at this
                exact ⟨this.ok.mono (by omega), this.kept, this.own⟩
              clear HS2
              go_wp2
              go_roundw
              case rel => exact ⟨k + 1, by omega, by go_num, HS3.out⟩
              case measure => simp [intOf]; omega
        · obtain rfl : k = E.nn := by omega
          go_wp2
          go_ret
          exact ⟨rfl, HS.out.ok.mono (by omega), HS.out.kept, HS.out.own⟩
end
end Go.Proofs.Ythogcanfinjfdaa.Et
namespace Go.Proofs.Ythogcanfinjfdaa.Et
open Go.RowKit Go.Maps
set_option linter.unusedVariables false
set_option linter.unusedSimpArgs false
set_option maxRecDepth 100000
section
variable {E E' : En} {w w' W : World} {B m : Nat}
def Rd (w : World) (ao : Option Addr) (len cap : Nat) (bs : List Int) : Prop :=
  bs.length = len ∧ (ao = none → len = 0 ∧ cap = 0) ∧ (len = 0 ∨ ∃ b off, ao = some ⟨b, off, none⟩ ∧ ∀ i, i < len → w.cell? ⟨b, off + i, none⟩ = some (.int .u8 (bs.getD i 0))) ∧ ∀ i, 0 ≤ bs.getD i 0 ∧ bs.getD i 0 ≤ 255
theorem info_u8 : (Try.prog.info? 5).map (fun i => (i.zero, i.size, i.bytes)) = some (some (.int .u8 0), 1, 1) := by kernel_rfl
theorem size_u8 : (Try.prog.info? 5).map (·.size) = some 1 := by kernel_rfl
theorem bytes_one (bs : List Int) : ∀ u ∈ bs.map (Value.int .u8), u.oneCell' = true := by
  intro u hu
  obtain ⟨_, _, rfl⟩ := List.mem_map.1 hu
  rfl
theorem Rd.still {ao : Option Addr} {len cap : Nat} {bs : List Int} (h : Rd w ao len cap bs) (hb : Below w.heap.size w w') : Rd w' ao len cap bs := by
  obtain ⟨h1, h2, h3, h4⟩ := h
  refine ⟨h1, h2, h3.elim (fun hh => .inl hh) (fun hh => .inr ?_), h4⟩
  obtain ⟨b, off, rfl, hc⟩ := hh
  exact ⟨b, off, rfl, fun i hi => (hb.cell (World.block_lt_of_cell? w _ (hc i hi))).trans (hc i hi)⟩
theorem Rd.cells {ao : Option Addr} {len cap : Nat} {bs : List Int} (h : Rd w ao len cap bs) (a : Addr) (ha : ao = some a) : ∀ j v, (bs.map (Value.int .u8))[j]? = some v → w.cell? (a.add j) = some v := by
  intro j v hv
  obtain ⟨hl, _, hc, _⟩ := h
  have hj : j < len := by have := (List.getElem?_eq_some_iff.1 hv).1; simpa [hl] using this
  rcases hc with h | ⟨b, off, hao, hc⟩
  · omega
  · rw [ha] at hao
    obtain rfl := Option.some.inj hao
    rw [Addr.add_lit, hc j hj]
    have e : (bs.map (Value.int .u8))[j]? = some (.int .u8 (bs.getD j 0)) := by simp [List.getD, show j < bs.length by omega]
    rw [e] at hv
    exact hv
theorem row_rd {ao : Option Addr} {n c : Nat} {bs : List Int} (h : w.ownsRow B 5 1 (.slice ao n c) n (bs.map (Value.int .u8))) (hr : ∀ i, 0 ≤ bs.getD i 0 ∧ bs.getD i 0 ≤ 255) : Rd w ao n c bs := by
  have hl : bs.length = n := by simpa using h.1
  refine ⟨hl, fun e => ?_, ?_, hr⟩
  · rcases h.2 with ⟨h1, h2⟩ | ⟨g, cap, cur, hv, _⟩
    · simp at h1; omega
    · subst e; simp at hv
  · by_cases h0 : n = 0
    · exact .inl h0
    · rcases h.2 with ⟨h1, h2⟩ | ⟨g, cap, cur, hv, hB, hg, hnc, hcm, hcs, htk⟩
      · omega
      · simp at hv
        refine .inr ⟨g, 0, hv.1, fun i hi => ?_⟩
        rw [Nat.zero_add, blk_cell hg i]
        have e1 : (cur.toList.take (n * 1))[i]? = (bs.map (Value.int .u8))[i]? := by rw [htk]
        rw [List.getElem?_take_of_lt (by omega)] at e1
        rw [← Array.getElem?_toList, e1]
        simp [List.getD, show i < bs.length by omega]
theorem Fx.byt.rd {f : Fx} (h : f.byt w B) : Rd w f.a f.n f.c f.bs := row_rd h.1 h.2

theorem cur_of_full {g n : Nat} {L : List Value} {cap' : Nat} (h : w.ownsRow B 5 1 (.slice (some ⟨g, 0, none⟩) n n) n L) : w.heap[g]? = some (.cells L.toArray 5 (0, 0)) := by
  rcases h.2 with ⟨h1, h2⟩ | ⟨g', cap, cur, hv, hB, hg, hnc, hcm, hcs, htk⟩
  · simp at h1
  · simp at hv
    obtain ⟨rfl, rfl⟩ := hv
    rw [List.take_of_length_le (by simp; omega)] at htk
    rw [hg, ← htk]
theorem full_of_cur {g : Nat} {bs : List Int} {n : Nat} (hn : bs.length = n) (hg : w.heap[g]? = some (.cells (bs.map (Value.int .u8)).toArray 5 (0, 0))) (hB : B ≤ g) (hm : n ≤ maxLen) : w.ownsRow B 5 1 (.slice (some ⟨g, 0, none⟩) n n) n (bs.map (Value.int .u8)) :=
  ⟨by simp [hn], .inr ⟨g, n, _, rfl, hB, hg, Nat.le_refl _, hm, by simp [hn], by rw [List.take_of_length_le (by simp [hn])]⟩⟩

set_option maxHeartbeats 1000000 in
theorem copyBytes_any (ao : Option Addr) (n c : Nat) (bs : List Int) (hr : Rd w ao n c bs) (hlen : n ≤ 140737488355328) : Calls Try.prog 70 #[.slice ao n c] w fun e w' => e = .returned (.slice (some ⟨w.heap.size, 0, none⟩) n n) ∧ w'.ownsRow w.heap.size 5 1 (.slice (some ⟨w.heap.size, 0, none⟩) n n) n (bs.map (Value.int .u8)) ∧ Below w.heap.size w w' := by
  obtain ⟨i0, hi, hz0, hz1, hz2⟩ := info_parts info_u8
  have hlb := hr.1
  have Hr : Hid (Rd w ao n c bs) := hr
  clear hr
  go_enter Try.func70, Try.ntmps70
  go_wp2_with (first
    | (at_make; refine wpList_make_full _ rfl _ _ 30 rfl w.heap.size 5 i0 (.int .u8 0) 1 Try.underlying30 hi hz0 hz1 .i64 .i64 _ _ n rfl rfl rfl rfl ?b2 ?b3 (Nat.le_refl _) ?_)
    | fail)
  case b2 => rw [hz2]; omega
  case b3 => unfold maxLen; omega
  intro w1 hown hgrow
  have hb1 : Hid (Below w.heap.size w w1) := (Below.refl _ w).grown hgrow (Nat.le_refl _) (fun k hk => by cases hk)
  obtain ⟨L, hown⟩ : ∃ L, w1.ownsRow w.heap.size 5 1 (.slice (some ⟨w.heap.size, 0, none⟩) n n) n L := ⟨_, hown⟩
  have hcur := cur_of_full (cap' := 0) hown
  have hLl : L.length = n := by simpa using hown.1
  have HR1 := Hr.out.still hb1.out
  clear hown hgrow Hr
  obtain ⟨X, hX⟩ : ∃ X, X = bs.map (Value.int .u8) := ⟨_, rfl⟩
  have hXl : X.length = n := by rw [hX]; simp [hlb]
  have Hsrc : Hid (0 < X.length → (some (⟨w.heap.size, 0, none⟩ : Addr)) = some ⟨w.heap.size, 0, none⟩ ∧ ∃ ad, ao = some ad ∧ ∀ j v, X[j]? = some v → w1.cell? (ad.add j) = some v) := by
    intro hp
    refine ⟨rfl, ?_⟩
    cases ao with
    | none => have := (HR1.2.1 rfl).1; omega
    | some ad => exact ⟨ad, rfl, by rw [hX]; exact HR1.cells ad rfl⟩
  have H1 : Hid (∀ v ∈ X, v.oneCell' = true) := by rw [hX]; exact bytes_one bs
  have HX : Hid (X = bs.map (Value.int .u8)) := hX
  clear HR1 hX
  go_wp2_with (first
    | (refine wpList_copy_splice rfl _ _ 30 30 rfl 5 Try.underlying30 size_u8 _ _ n n n c rfl rfl w.heap.size 0 L 5 hcur X (by rw [hXl]; exact (Nat.min_self n).symm) Hsrc.out (by omega) H1.out w.heap.size w hb1.out (Nat.le_refl _) ?_; intro w2 hg2 hb2)
    | fail)
  go_ret
  refine ⟨rfl, ?_, hb2⟩
  have hg2 := hg2.out
  have e : splice L 0 X = bs.map (Value.int .u8) := by
    rw [← HX.out]
    simp [splice]
    omega
  rw [e] at hg2
  exact full_of_cur hlb hg2 (Nat.le_refl _) (by unfold maxLen; omega)
end
end Go.Proofs.Ythogcanfinjfdaa.Et
namespace Go.Proofs.Ythogcanfinjfdaa.Et
open Go.RowKit Go.Maps
set_option linter.unusedVariables false
set_option linter.unusedSimpArgs false
set_option maxRecDepth 100000
section
variable {E E' : En} {w w' W : World} {B m : Nat}

theorem blk_set {t : TypeId} {k i : Nat} {cs cs' : Array Value} {v : Value} (h : w.heap[k]? = some (.cells cs t (0, 0))) (e : cs.setIfInBounds i v = cs') : (w.setCell ⟨k, i, none⟩ v).heap[k]? = some (.cells cs' t (0, 0)) := e ▸ heap_setCell_same w k i cs t v h
theorem blk_set_ne {t : TypeId} {k k' i : Nat} {cs : Array Value} {v : Value} (h : w.heap[k]? = some (.cells cs t (0, 0))) (e : k ≠ k') : (w.setCell ⟨k', i, none⟩ v).heap[k]? = some (.cells cs t (0, 0)) := (Below.heap_setCell w ⟨k', i, none⟩ v k e).trans h
theorem own_set {t s n : Nat} {v u : Value} {l : List Value} {k i : Nat} (h : w.ownsRow B t s v n l) (hk : v.ownBlock ≠ some k) : (w.setCell ⟨k, i, none⟩ u).ownsRow B t s v n l :=
  (kset (P := fun j => j = k) w k i u rfl).owns h (fun q hq e => hk (by rw [hq, e]))
theorem own_lower {B' t s n : Nat} {v : Value} {l : List Value} (h : w.ownsRow B t s v n l) (hB : B' ≤ B) : w.ownsRow B' t s v n l :=
  ⟨h.1, h.2.elim (fun hh => .inl hh) (fun ⟨g, cap, cur, e1, e2, e3⟩ => .inr ⟨g, cap, cur, e1, by omega, e3⟩)⟩

theorem fl_cells {t : TypeId} {k : Nat} {v0 v1 v2 v3 v4 : Value} (h : w.heap[k]? = some (.cells #[v0, v1, v2, v3, v4] t (0, 0))) : w.cell? ⟨k, 0, none⟩ = some v0 ∧ w.cell? ⟨k, 1, none⟩ = some v1 ∧ w.cell? ⟨k, 2, none⟩ = some v2 ∧ w.cell? ⟨k, 3, none⟩ = some v3 ∧ w.cell? ⟨k, 4, none⟩ = some v4 :=
  ⟨blk_cell h 0, blk_cell h 1, blk_cell h 2, blk_cell h 3, blk_cell h 4⟩
theorem fl_frz {t : TypeId} {k : Nat} {cs : Array Value} (h : w.heap[k]? = some (.cells cs t (0, 0))) : w.frozen? ⟨k, 0, none⟩ = false ∧ w.frozen? ⟨k, 1, none⟩ = false ∧ w.frozen? ⟨k, 2, none⟩ = false ∧ w.frozen? ⟨k, 3, none⟩ = false ∧ w.frozen? ⟨k, 4, none⟩ = false :=
  ⟨frozen_of_row w _ 0 _ _ h, frozen_of_row w _ 1 _ _ h, frozen_of_row w _ 2 _ _ h, frozen_of_row w _ 3 _ _ h, frozen_of_row w _ 4 _ _ h⟩

set_option maxHeartbeats 1000000 in
theorem copyFlight_any (id src dst due : Int) (ao : Option Addr) (n c : Nat) (bs : List Int) (hr : Rd w ao n c bs) (hlen : n ≤ 140737488355328) : Calls Try.prog 45 #[.agg #[.int .i64 id, .int .i64 src, .int .i64 dst, .int .i64 due, .slice ao n c]] w fun e w' => ∃ g, e = .returned (.agg #[.int .i64 id, .int .i64 src, .int .i64 dst, .int .i64 due, .slice (some ⟨g, 0, none⟩) n n]) ∧ w'.ownsRow w.heap.size 5 1 (.slice (some ⟨g, 0, none⟩) n n) n (bs.map (Value.int .u8)) ∧ Below w.heap.size w w' := by
  generalize hW : (w.alloc (.cells #[.int .i64 id, .int .i64 src, .int .i64 dst, .int .i64 due, .slice ao n c] 48)).alloc (.cells #[.int .i64 0, .int .i64 0, .int .i64 0, .int .i64 0, .slice none 0 0] 48) = W
  have hbW : Below w.heap.size w W := by rw [← hW]; exact balloc (balloc (Below.refl _ w))
  have hWs : W.heap.size = w.heap.size + 1 + 1 := by rw [← hW]; simp
  have hblk : W.heap[w.heap.size]? = some (.cells #[.int .i64 id, .int .i64 src, .int .i64 dst, .int .i64 due, .slice ao n c] 48 (0, 0)) := by rw [← hW]; exact blk_alloc (heap_alloc_new w _)
  have hblk2 : W.heap[w.heap.size + 1]? = some (.cells #[.int .i64 0, .int .i64 0, .int .i64 0, .int .i64 0, .slice none 0 0] 48 (0, 0)) := by
    rw [← hW]
    have := heap_alloc_new (w.alloc (.cells #[.int .i64 id, .int .i64 src, .int .i64 dst, .int .i64 due, .slice ao n c] 48)) (.cells #[.int .i64 0, .int .i64 0, .int .i64 0, .int .i64 0, .slice none 0 0] 48)
    simpa using this
  have HC := copyBytes_any (w := W) ao n c bs (hr.still hbW) hlen
  have d4 := blk_cell hblk 4
  simp at d4
  have Hb : Hid (Below w.heap.size w W) := hbW
  have HB : Hid (W.heap[w.heap.size]? = some (.cells #[.int .i64 id, .int .i64 src, .int .i64 dst, .int .i64 due, .slice ao n c] 48 (0, 0))) := hblk
  have HB2 : Hid (W.heap[w.heap.size + 1]? = some (.cells #[.int .i64 0, .int .i64 0, .int .i64 0, .int .i64 0, .slice none 0 0] 48 (0, 0))) := hblk2
  clear hr hbW hblk hblk2
  go_enter Try.func45, Try.ntmps45
  go_wp2_with (first | (go_at_call 70; refine HC.mono ?_; rintro e w1 ⟨rfl, ho, hb1⟩; have Ho : Hid (w1.ownsRow W.heap.size 5 1 (.slice (some ⟨W.heap.size, 0, none⟩) n n) n (bs.map (Value.int .u8))) := ho; have hB1 : Hid (w1.heap[w.heap.size]? = some (.cells #[.int .i64 id, .int .i64 src, .int .i64 dst, .int .i64 due, .slice ao n c] 48 (0, 0))) := (hb1.block _ (by omega)).trans HB.out; have hB2 : Hid (w1.heap[w.heap.size + 1]? = some (.cells #[.int .i64 0, .int .i64 0, .int .i64 0, .int .i64 0, .slice none 0 0] 48 (0, 0))) := (hb1.block _ (by omega)).trans HB2.out; obtain ⟨e0, e1, e2, e3, e4⟩ := fl_cells hB1.out; obtain ⟨g0, g1, g2, g3, g4⟩ := fl_frz hB1.out; obtain ⟨i0, i1, i2, i3, i4⟩ := fl_frz hB2.out; obtain ⟨z0, z1, z2, z3, z4⟩ := fl_cells hB2.out; have Hb1 : Hid (Below w.heap.size w w1) := bstep Hb.out hb1; clear ho hb1) | fail)
  have b1 := blk_set_ne (k' := w.heap.size) (i := 4) (v := .slice (some ⟨w.heap.size + 1 + 1, 0, none⟩) n n) hB2.out (by omega)
  have b2 := blk_set (i := 0) (v := .int .i64 id) b1 rfl
  have b3 := blk_set (i := 1) (v := .int .i64 src) b2 rfl
  have b4 := blk_set (i := 2) (v := .int .i64 dst) b3 rfl
  have b5 := blk_set (i := 3) (v := .int .i64 due) b4 rfl
  have b6 := blk_set (i := 4) (v := .slice (some ⟨w.heap.size + 1 + 1, 0, none⟩) n n) b5 rfl
  have hbF := bset (bset (bset (bset (bset (bset Hb1.out (Nat.le_refl w.heap.size) 4 (.slice (some ⟨w.heap.size + 1 + 1, 0, none⟩) n n)) (Nat.le_succ w.heap.size) 0 (.int .i64 id)) (Nat.le_succ w.heap.size) 1 (.int .i64 src)) (Nat.le_succ w.heap.size) 2 (.int .i64 dst)) (Nat.le_succ w.heap.size) 3 (.int .i64 due)) (Nat.le_succ w.heap.size) 4 (.slice (some ⟨w.heap.size + 1 + 1, 0, none⟩) n n)
  have ho1 := own_lower (B' := w.heap.size) Ho.out (by omega)
  rw [hWs] at ho1
  have hne : (Value.slice (some (⟨w.heap.size + 1 + 1, 0, none⟩ : Addr)) n n).ownBlock ≠ some w.heap.size := by simp [Value.ownBlock]; omega
  have hne2 : (Value.slice (some (⟨w.heap.size + 1 + 1, 0, none⟩ : Addr)) n n).ownBlock ≠ some (w.heap.size + 1) := by simp [Value.ownBlock]
  have hoF := own_set (i := 4) (u := .slice (some ⟨w.heap.size + 1 + 1, 0, none⟩) n n) (own_set (i := 3) (u := .int .i64 due) (own_set (i := 2) (u := .int .i64 dst) (own_set (i := 1) (u := .int .i64 src) (own_set (i := 0) (u := .int .i64 id) (own_set (i := 4) (u := .slice (some ⟨w.heap.size + 1 + 1, 0, none⟩) n n) ho1 hne) hne2) hne2) hne2) hne2) hne2
  clear b1 b2 b3 b4 b5 ho1
  revert b6 hbF hoF
  generalize (World.setCell _ _ _) = WF
  intro b6 hbF hoF
  obtain ⟨q0, q1, q2, q3, q4⟩ := fl_cells b6
  exact bodyPost_ret (v := .agg #[.int .i64 id, .int .i64 src, .int .i64 dst, .int .i64 due, .slice (some ⟨w.heap.size + 1 + 1, 0, none⟩) n n]) (by simp [results, Try.results45, go_sem, q0, q1, q2, q3, q4]) rfl ⟨_, rfl, hoF, hbF⟩
end
end Go.Proofs.Ythogcanfinjfdaa.Et
namespace Go.Proofs.Ythogcanfinjfdaa.Et
open Go.RowKit Go.Maps
set_option linter.unusedVariables false
set_option linter.unusedSimpArgs false
set_option maxRecDepth 100000
section
variable {E E' : En} {w w' W : World} {B m : Nat}

theorem below_drewN {B : Nat} {a w : World} (h : Below B a w) (n : Nat) : Below B a (w.drewN n) := ⟨h.os, h.tape, h.output, h.size, h.block⟩

theorem far_cells {w2 w3 : World} (h : E.Ok W B m) (hb2 : Below W.heap.size W w2) (hgrow : w2.grownBy w3 (Value.slice E.va E.fs.length E.vc).ownBlock) :
    w3.cell? ⟨E.b, 6, none⟩ = some (.slice E.va E.fs.length E.vc) ∧ w3.frozen? ⟨E.b, 6, none⟩ = false ∧ ∀ k i v, E.b < k → (∀ j, E.own j → j < k) → W.cell? ⟨k, i, none⟩ = some v → w3.cell? ⟨k, i, none⟩ = some v := by
  have k3 : Kept W w3 (fun j => (Value.slice E.va E.fs.length E.vc).ownBlock = some j) := (Kept.ofBelow hb2 _).trans ((Kept.ofGrown hgrow).mono (fun j _ e => e.symm))
  have hblk3 : w3.heap[E.b]? = some (.cells E.cs 91 (0, 0)) := k3.obj h.blk (fun e => (h.row_ne e).1 rfl)
  refine ⟨(blk_cell hblk3 6).trans rfl, frozen_of_row w3 _ 6 _ _ hblk3, fun k i v _ hk hc => ?_⟩
  exact (World.cell?_of_block (w := W) (k3.block k (World.block_lt_of_cell? W _ hc) (fun e => by have := hk k (.inr (.inr (.inr (.inr (.inl e))))); omega))).trans hc

theorem Step.push {w2 w3 : World} (h : E.Ok W B m) (hB : B ≤ W.heap.size) (hb2 : Below W.heap.size W w2) (f : Fx) (hf : w2.ownsRow W.heap.size 5 1 f.v f.n (f.bs.map (Value.int .u8))) (hr : ∀ i, 0 ≤ f.bs.getD i 0 ∧ f.bs.getD i 0 ≤ 255)
    (hp : ∃ p q : Nat, f.src = p ∧ f.dst = q ∧ p < E.nn ∧ q < E.nn ∧ p ≠ q) (g cap : Nat) (hown : w3.ownsRow B 48 5 (.slice (some ⟨g, 0, none⟩) (E.fs.length + 1) cap) (E.fs.length + 1) (flCells E.fs ++ f.cs.toList))
    (hgrow : w2.grownBy w3 (Value.slice E.va E.fs.length E.vc).ownBlock) (hat : (Value.slice E.va E.fs.length E.vc).ownBlock = some g ∨ g = w2.heap.size) :
    Step W (w3.setCell ⟨E.b, 6, none⟩ (.slice (some ⟨g, 0, none⟩) (E.fs.length + 1) cap)) E { E with va := some ⟨g, 0, none⟩, vc := cap, fs := E.fs ++ [f] } B m := by
  have k3 : Kept W w3 (fun j => (Value.slice E.va E.fs.length E.vc).ownBlock = some j) := (Kept.ofBelow hb2 _).trans ((Kept.ofGrown hgrow).mono (fun j _ e => e.symm))
  have hblk3 : w3.heap[E.b]? = some (.cells E.cs 91 (0, 0)) := k3.obj h.blk (fun e => (h.row_ne e).1 rfl)
  have hgb : (Value.slice (some (⟨g, 0, none⟩ : Addr)) (E.fs.length + 1) cap).ownBlock ≠ some E.b := by
    intro e
    obtain ⟨cur, hc⟩ := row_ty hown e
    rw [hblk3] at hc
    simp at hc
  have ks : Kept w3 (w3.setCell ⟨E.b, 6, none⟩ (.slice (some ⟨g, 0, none⟩) (E.fs.length + 1) cap)) (fun j => j = E.b) := kset w3 E.b 6 _ rfl
  have k4 : Kept W (w3.setCell ⟨E.b, 6, none⟩ (.slice (some ⟨g, 0, none⟩) (E.fs.length + 1) cap)) (fun j => (Value.slice E.va E.fs.length E.vc).ownBlock = some j ∨ j = E.b) := (k3.mono (fun _ _ e => .inl e)).trans (ks.mono (fun _ _ e => .inr e))
  have hfb : ∀ j, f.v.ownBlock = some j → W.heap.size ≤ j := fun j hj => (World.ownsRow.lt hf j hj).1
  have kf : Kept w2 (w3.setCell ⟨E.b, 6, none⟩ (.slice (some ⟨g, 0, none⟩) (E.fs.length + 1) cap)) (fun j => (Value.slice E.va E.fs.length E.vc).ownBlock = some j ∨ j = E.b) :=
    (((Kept.ofGrown hgrow).mono (fun j _ e => e.symm)).mono (fun _ _ e => .inl e)).trans (ks.mono (fun _ _ e => .inr e))
  have hrow_lt : ∀ j, (Value.slice E.va E.fs.length E.vc).ownBlock = some j → j < W.heap.size := fun j hj => (World.ownsRow.lt h.fls.row j hj).2
  have hb_lt : E.b < W.heap.size := lt_heap h.blk
  refine ⟨⟨?_, ?_, ?_, ?_, ⟨?_, ?_, ?_⟩, h.ge, h.ne, h.n16, ?_, h.dly⟩, ?_, ?_⟩
  · have := blk_set (i := 6) (v := .slice (some ⟨g, 0, none⟩) (E.fs.length + 1) cap) hblk3 rfl
    rw [this]
    simp [En.cs]
  · exact h.nod.keep k4 (fun e => e.elim (fun e => (h.row_ne e).2.1 rfl) (fun e => h.b_bn e.symm))
  · exact h.cut.keep k4 (fun e => e.elim (fun e => (h.row_ne e).2.2.1 rfl) (fun e => h.b_bc e.symm))
  · exact h.del.keep k4 (fun e => e.elim (fun e => (h.row_ne e).2.2.2 rfl) (fun e => h.b_bd e.symm))
  · have := own_set (k := E.b) (i := 6) (u := .slice (some ⟨g, 0, none⟩) (E.fs.length + 1) cap) hown hgb
    simp only [List.length_append, List.length_cons, List.length_nil]
    rw [flCells_app]
    simpa [flCells] using this
  · intro x hx
    rcases List.mem_append.1 hx with hx | hx
    · exact (h.fls.byt x hx).keep k4 (fun j hj e => e.elim (fun e => (h.byt_ne hx hj).2.2.2.2 e) (fun e => (h.byt_ne hx hj).1 e))
    · obtain rfl := List.mem_singleton.1 hx
      exact ⟨own_lower (kf.owns hf (fun j hj e => by have := hfb j hj; rcases e with e | e; (have := hrow_lt j e; omega); (omega))) hB, hr⟩
  · refine List.pairwise_append.2 ⟨h.fls.apt, List.pairwise_singleton _ _, ?_⟩
    intro x hx y hy k hk e
    obtain rfl := List.mem_singleton.1 hy
    have h1 := (World.ownsRow.lt (h.fls.byt x hx).1 k hk).2
    have h2 := hfb k e
    omega
  · intro x hx
    rcases List.mem_append.1 hx with hx | hx
    · exact h.pth x hx
    · obtain rfl := List.mem_singleton.1 hx
      exact hp
  · exact k4.mono (fun j _ e => e.elim (fun e => .inr (.inr (.inr (.inr (.inl e))))) (fun e => .inl e))
  · intro j hj
    rcases hj with e | e | e | e | e | ⟨x, hx, e⟩
    · exact .inl (.inl e)
    · exact .inl (.inr (.inl e))
    · exact .inl (.inr (.inr (.inl e)))
    · exact .inl (.inr (.inr (.inr (.inl e))))
    · simp [Value.ownBlock] at e
      rcases hat with h1 | h1
      · exact .inl (.inr (.inr (.inr (.inr (.inl (by rw [h1, e]))))))
      · right; have := hb2.size; omega
    · rcases List.mem_append.1 hx with hx | hx
      · exact .inl (.inr (.inr (.inr (.inr (.inr ⟨x, hx, e⟩)))))
      · obtain rfl := List.mem_singleton.1 hx
        exact .inr (hfb j e)

set_option maxHeartbeats 1000000 in
theorem join_no (h : E.Ok w B m) (f : Fx) (hl : E.room ≤ E.fs.length) : Calls Try.prog 64 #[.pointer (some ⟨E.b, 0, none⟩), .agg f.cs] w fun e w' => e = .returned (.tuple #[.int .i64 0, .int .i64 31]) ∧ Below w.heap.size w w' := by
  unfold Fx.cs
  generalize hW : w.alloc (.cells #[.int .i64 f.id, .int .i64 f.src, .int .i64 f.dst, .int .i64 f.due, .slice f.a f.n f.c] 48) = W
  have b0 : Below w.heap.size w W := by rw [← hW]; exact balloc (Below.refl _ w)
  have h1 := h.still b0
  have c6 := h1.c6
  have c4 := h1.c4
  have Hb : Hid (Below w.heap.size w W) := b0
  clear h h1 b0
  go_enter Try.func64, Try.ntmps64
  go_wp2
  go_quiet (fail)
  go_wp2
  go_ret2
  exact ⟨rfl, below_drewN Hb.out _⟩


end
end Go.Proofs.Ythogcanfinjfdaa.Et
namespace Go.Proofs.Ythogcanfinjfdaa.Et
open Go.RowKit Go.Maps
set_option linter.unusedVariables false
set_option linter.unusedSimpArgs false
set_option maxRecDepth 100000
section
variable {E E' : En} {w w' W : World} {B m : Nat}
theorem info_fl : (Try.prog.info? 48).map (fun i => (i.zero, i.size, i.bytes)) = some (some (.agg #[.int .i64 0, .int .i64 0, .int .i64 0, .int .i64 0, .slice none 0 0]), 5, 56) := by kernel_rfl
theorem own_still {W W' : World} {B e s n : Nat} {v : Value} {l : List Value} (h : W.ownsRow B e s v n l) (hb : Below W.heap.size W W') : W'.ownsRow B e s v n l := (Kept.ofBelow hb (fun _ => False)).owns h (fun _ _ => id)
theorem En.Ok.not_u8 (h : E.Ok w B m) (i : Nat) (x : Int) : w.cell? ⟨E.b, i, none⟩ ≠ some (.int .u8 x) := by
  rw [blk_cell h.blk i]
  unfold En.cs
  rcases i with _ | _ | _ | _ | _ | _ | _ | i <;> simp
def wN (E : En) : Int := wrap64 (E.last + 1)

set_option maxHeartbeats 4000000 in
theorem join_ok (h : E.Ok w B m) (hB : B ≤ w.heap.size) (f : Fx) (hr : Rd w f.a f.n f.c f.bs) (hlen : f.n ≤ 140737488355328) (hp : ∃ p q : Nat, f.src = p ∧ f.dst = q ∧ p < E.nn ∧ q < E.nn ∧ p ≠ q) (hl : E.fs.length < E.room) (hR : E.room ≤ 20000) : Calls Try.prog 64 #[.pointer (some ⟨E.b, 0, none⟩), .agg f.cs] w fun e w' => e = .returned (.tuple #[.int .i64 (wN E), .int .i64 0]) ∧ ∃ g a c, Step w w' E { E with last := wN E, va := a, vc := c, fs := E.fs ++ [⟨wN E, f.src, f.dst, f.due, some ⟨g, 0, none⟩, f.n, f.n, f.bs⟩] } B m := by
  unfold Fx.cs
  generalize hL : wN E = L
  obtain ⟨i0, hi, hz0, hz1, hz2⟩ := info_parts info_fl
  generalize hW : w.alloc (.cells #[.int .i64 f.id, .int .i64 f.src, .int .i64 f.dst, .int .i64 f.due, .slice f.a f.n f.c] 48) = W
  have b0 : Below w.heap.size w W := by rw [← hW]; exact balloc (Below.refl _ w)
  have h1 := h.still b0
  have hr1 := hr.still b0
  have c6 := h1.c6
  have c4 := h1.c4
  have c5 := h1.c5
  have z5 := h1.fz 5
  have hblk : W.heap[w.heap.size]? = some (.cells #[.int .i64 f.id, .int .i64 f.src, .int .i64 f.dst, .int .i64 f.due, .slice f.a f.n f.c] 48 (0, 0)) := by rw [← hW]; exact heap_alloc_new w _
  have hbw : E.b < w.heap.size := lt_heap h.blk
  have hoo : ∀ j, E.own j → j < w.heap.size := fun j hj => h.ltOwn hj
  obtain ⟨y0, y1, y2, y3, y4⟩ := fl_frz hblk
  obtain ⟨e0, e1, e2, e3, e4⟩ := fl_cells hblk
  have hV : ∀ n, ∃ V, V = ((W.drewN n).setCell ⟨E.b, 5, none⟩ (.int .i64 (L))).setCell ⟨w.heap.size, 0, none⟩ (.int .i64 (L)) ∧ Step w V E { E with last := L } B m ∧ V.heap[w.heap.size]? = some (.cells #[.int .i64 (L), .int .i64 f.src, .int .i64 f.dst, .int .i64 f.due, .slice f.a f.n f.c] 48 (0, 0)) ∧ Rd V f.a f.n f.c f.bs ∧ w.heap.size < V.heap.size := by
    intro n
    have hbn := below_drewN b0 n
    have h2 := h.still hbn
    have s1 : Step (W.drewN n) ((W.drewN n).setCell ⟨E.b, 5, none⟩ (.int .i64 (L))) E { E with last := L } B m := ⟨h2.setB 5 _ rfl rfl, kset _ _ _ _ (.inl rfl), fun j hj => .inl hj⟩
    have s2 := Step.pre hbn s1
    have k1 : Kept w (((W.drewN n).setCell ⟨E.b, 5, none⟩ (.int .i64 (L))).setCell ⟨w.heap.size, 0, none⟩ (.int .i64 (L))) (fun j => j = E.b) := by
      have ka : Kept w ((W.drewN n).setCell ⟨E.b, 5, none⟩ (.int .i64 (L))) (fun j => j = E.b) := (Kept.ofBelow hbn _).trans (kset _ _ _ _ rfl)
      exact ka.step (kset (P := fun j => j = w.heap.size) _ _ 0 _ rfl) (fun j hj => .inr (by omega))
    refine ⟨_, rfl, ⟨?_, ?_, s2.own⟩, ?_, ?_, ?_⟩
    · exact s2.ok.keep (kset (P := fun j => j = w.heap.size) _ _ 0 _ rfl) (fun j hj e => by
        have : E.own j := hj
        have := h.ltOwn this
        omega)
    · exact k1.mono (fun j _ e => .inl e)
    · exact blk_set (blk_set_ne (w := W.drewN n) hblk (by omega)) rfl
    · obtain ⟨r1, r2, r3, r4⟩ := hr
      refine ⟨r1, r2, r3.elim (fun hh => .inl hh) (fun hh => .inr ?_), r4⟩
      obtain ⟨b, off, ha, hc⟩ := hh
      refine ⟨b, off, ha, fun i hi => ?_⟩
      have hlt := World.block_lt_of_cell? w _ (hc i hi)
      have hne : b ≠ E.b := fun e => by
        subst e
        exact h.not_u8 _ _ (hc i hi)
      exact (World.cell?_of_block (w := w) (k1.block b hlt hne)).trans (hc i hi)
    · have := lt_heap hblk
      simpa using this
  have HV : Hid (∀ n, ∃ V, V = ((W.drewN n).setCell ⟨E.b, 5, none⟩ (.int .i64 (L))).setCell ⟨w.heap.size, 0, none⟩ (.int .i64 (L)) ∧ Step w V E { E with last := L } B m ∧ V.heap[w.heap.size]? = some (.cells #[.int .i64 (L), .int .i64 f.src, .int .i64 f.dst, .int .i64 f.due, .slice f.a f.n f.c] 48 (0, 0)) ∧ Rd V f.a f.n f.c f.bs ∧ w.heap.size < V.heap.size) := hV
  have hrr := hr.2.2.2
  clear h h1 b0 hblk hV hr hr1
  go_enter Try.func64, Try.ntmps64
  go_wp2
  go_quiet (fail)
  go_wp2
  obtain ⟨V, hVe, sV, vblk, vrd, vlt⟩ := HV.out nq
  have hwN : wrap64 (E.last + 1) = L := hL
  rw [hwN, ← hVe]
  have hE1 := sV.ok
  have v6 : V.cell? ⟨E.b, 6, none⟩ = some (.slice E.va E.fs.length E.vc) := hE1.c6
  obtain ⟨u0, u1, u2, u3, u4⟩ := fl_cells vblk
  have vz : V.frozen? ⟨E.b, 6, none⟩ = false := hE1.fz 6
  have vsz : w.heap.size ≤ V.heap.size := Nat.le_of_lt vlt
  clear hVe HV c6 c4 c5 z5 y0 y1 y2 y3 y4 e0 e1 e2 e3 e4 hW
  have HC : Hid (∀ w', Below V.heap.size V w' → Calls Try.prog 45 #[.agg #[.int .i64 L, .int .i64 f.src, .int .i64 f.dst, .int .i64 f.due, .slice f.a f.n f.c]] w' fun e w2 => ∃ g, e = .returned (.agg #[.int .i64 L, .int .i64 f.src, .int .i64 f.dst, .int .i64 f.due, .slice (some ⟨g, 0, none⟩) f.n f.n]) ∧ w2.ownsRow V.heap.size 5 1 (.slice (some ⟨g, 0, none⟩) f.n f.n) f.n (f.bs.map (Value.int .u8)) ∧ Below V.heap.size V w2) := fun w' hb => (copyFlight_any L f.src f.dst f.due f.a f.n f.c f.bs (vrd.still hb) hlen).mono fun e w2 ⟨g, x1, x2, x3⟩ => ⟨g, x1, own_lower x2 hb.size, bstep hb x3⟩
  have HO : Hid (∀ j, E.own j → j < w.heap.size) := hoo
  have HE : Hid (En.Ok { E with last := L } V B m) := hE1
  have HS : Hid (Step w V E { E with last := L } B m) := sV
  clear hE1 sV vrd hoo
  have hrow := HE.out.fls.row
  have hvl : E.fs.length ≤ 20000 := by omega
  go_region_law (first
    | (refine step_append_lies _ (by rfl) _ _ 43 (by rfl) B 48 i0 (.agg #[.int .i64 0, .int .i64 0, .int .i64 0, .int .i64 0, .slice none 0 0]) 5 56 Try.underlying43 hi hz0 hz1 hz2 (by rfl) (by omega) (.slice E.va E.fs.length E.vc) E.fs.length (flCells E.fs) (by rfl) (own_still hrow (by repeat (first | exact Below.refl _ _ | assumption | apply Below.drew | apply balloc))) _ 1 1 _ (by rfl) (by rfl) (World.news_of_block (heap_alloc_new _ _)) (by simp [Value.oneCell']) (by omega) (by unfold maxLen; omega) (by omega) (by first | (simp; omega) | omega) _ (by rfl) ?_; intro g3 cap3 w3 hown3 hgrow3 hat3 hlt3; obtain ⟨t6, tz, tk⟩ := far_cells (E := { E with last := L }) HE.out (by repeat (first | exact Below.refl _ _ | assumption | apply Below.drew | apply balloc)) hgrow3; have t0 := tk w.heap.size 0 _ hbw HO.out u0; have P3 : Hid (Step V (w3.setCell ⟨E.b, 6, none⟩ (.slice (some ⟨g3, 0, none⟩) (E.fs.length + 1) cap3)) { E with last := L } { E with last := L, va := some ⟨g3, 0, none⟩, vc := cap3, fs := E.fs ++ [⟨L, f.src, f.dst, f.due, some ⟨g, 0, none⟩, f.n, f.n, f.bs⟩] } B m) := (Step.push (E := { E with last := L }) HE.out (by omega) (by repeat (first | exact Below.refl _ _ | assumption | apply Below.drew | apply balloc)) ⟨L, f.src, f.dst, f.due, some ⟨g, 0, none⟩, f.n, f.n, f.bs⟩ (own_still ho (by repeat (first | exact Below.refl _ _ | assumption | apply Below.drew | apply balloc))) hrr hp g3 cap3 hown3 hgrow3 hat3); clear hown3 hgrow3 hat3 tk)
    | (go_simp; go_at_call 45; refine (HC.out _ (by repeat (first | exact Below.refl _ _ | assumption | apply Below.drew | apply balloc))).mono ?_; rintro e w1 ⟨g, rfl, ho, hb1⟩; have hszv := hb1.size; have t16 : w1.cell? ⟨E.b, 6, none⟩ = some (.slice E.va E.fs.length E.vc) := ((hb1.cell (show E.b < V.heap.size by omega)).trans v6); have t17 : (∀ o, (w1.alloc o).cell? ⟨E.b, 6, none⟩ = some (.slice E.va E.fs.length E.vc)) := (fun o => (((Below.refl w1.heap.size w1).alloc (Nat.le_refl _) o).cell (World.block_lt_of_cell? w1 _ t16)).trans t16)))
  all_goals (go_wp2; go_ret2; exact ⟨rfl, g, _, _, HS.out.trans P3.out⟩)
end
end Go.Proofs.Ythogcanfinjfdaa.Et
namespace Go.Proofs.Ythogcanfinjfdaa.Et
open Go.RowKit Go.Maps
set_option linter.unusedVariables false
set_option linter.unusedSimpArgs false
set_option maxRecDepth 100000
section
variable {E E' : En} {w w' W : World} {B m : Nat}

set_option maxHeartbeats 400000 in
theorem canCarry_any (h : E.Ok w B m) (p q : Int) (ao : Option Addr) (n c : Nat) : Calls Try.prog 42 #[.pointer (some ⟨E.b, 0, none⟩), .agg #[.int .i64 p, .int .i64 q], .slice ao n c] w fun e w' => e = .returned (.bool (isP E p q && decide ((n : Int) ≤ 40000))) ∧ Below w.heap.size w w' := by
  generalize hc : isP E p q = c1
  have HP := isPath_is h hc
  have b0 : Below w.heap.size w (w.alloc (.cells #[.int .i64 p, .int .i64 q] 99)) := balloc (Below.refl _ w)
  clear h
  cases c1 with
  | false =>
    go_enter Try.func42, Try.ntmps42
    go_wp2_with (first | (go_at_call 61; refine (HP _ b0).mono ?_; rintro e w1 ⟨rfl, hb1⟩; have r1 := bstep b0 hb1; clear hb1) | fail)
    go_ret
    exact ⟨rfl, r1⟩
  | true =>
    go_enter Try.func42, Try.ntmps42
    go_wp2_with (first | (go_at_call 61; refine (HP _ b0).mono ?_; rintro e w1 ⟨rfl, hb1⟩; have r1 := bstep b0 hb1; clear hb1) | fail)
    all_goals (go_ret; exact ⟨by simp, r1⟩)

set_option maxHeartbeats 400000 in
theorem launch_cut (h : E.Ok w B m) (p q : Nat) (hp : p < 16) (hq : q < 16) (hc : E.cut p q = true) (v : Value) : Calls Try.prog 43 #[.pointer (some ⟨E.b, 0, none⟩), .agg #[.int .i64 p, .int .i64 q], v] w fun e w' => e = .returned (.tuple #[.int .i64 0, .int .i64 30]) ∧ Below w.heap.size w w' := by
  have HP := isCut_is h hp hq hc
  have b0 : Below w.heap.size w (w.alloc (.cells #[.int .i64 p, .int .i64 q] 99)) := balloc (Below.refl _ w)
  clear h
  go_enter Try.func43, Try.ntmps43
  go_wp2_with (first | (go_at_call 67; refine (HP _ b0).mono ?_; rintro e w1 ⟨rfl, hb1⟩; have r1 := bstep b0 hb1; clear hb1) | fail)
  go_ret2
  exact ⟨rfl, r1⟩

set_option maxHeartbeats 4000000 in
theorem launch_go (h : E.Ok w B m) (p q : Nat) (hp : p < 16) (hq : q < 16) (hc : E.cut p q = false) (ao : Option Addr) (n c : Nat) (R : Ending → World → Prop)
    (HJ : ∀ w', Below w.heap.size w w' → Calls Try.prog 64 #[.pointer (some ⟨E.b, 0, none⟩), .agg #[.int .i64 0, .int .i64 p, .int .i64 q, .int .i64 (IntKind.i64.wrap (E.clock + E.dl p q)), .slice ao n c]] w' fun e w2 => (∃ x y, e = .returned (.tuple #[.int .i64 x, .int .i64 y])) ∧ R e w2 ∧ (∀ k i v, w.heap.size ≤ k → w'.cell? ⟨k, i, none⟩ = some v → w2.cell? ⟨k, i, none⟩ = some v) ∧ w2.cell? ⟨E.b, 0, none⟩ = some (.int .i64 E.clock)) :
    Calls Try.prog 43 #[.pointer (some ⟨E.b, 0, none⟩), .agg #[.int .i64 p, .int .i64 q], .slice ao n c] w R := by
  have HP := isCut_is h hp hq hc
  have HD : Hid (∀ w', Below w.heap.size w w' → Calls Try.prog 68 #[.pointer (some ⟨E.b, 0, none⟩), .agg #[.int .i64 p, .int .i64 q]] w' fun e w2 => e = .returned (.int .i64 (E.dl p q)) ∧ Below w'.heap.size w' w2) := delay_is h hp hq
  have b0 : Below w.heap.size w (w.alloc (.cells #[.int .i64 p, .int .i64 q] 99)) := balloc (Below.refl _ w)
  have Hh : Hid (E.Ok w B m) := h
  have hbw : E.b < w.heap.size := lt_heap h.blk
  have HJ' : Hid (∀ w', Below w.heap.size w w' → Calls Try.prog 64 #[.pointer (some ⟨E.b, 0, none⟩), .agg #[.int .i64 0, .int .i64 p, .int .i64 q, .int .i64 (IntKind.i64.wrap (E.clock + E.dl p q)), .slice ao n c]] w' fun e w2 => (∃ x y, e = .returned (.tuple #[.int .i64 x, .int .i64 y])) ∧ R e w2 ∧ (∀ k i v, w.heap.size ≤ k → w'.cell? ⟨k, i, none⟩ = some v → w2.cell? ⟨k, i, none⟩ = some v) ∧ w2.cell? ⟨E.b, 0, none⟩ = some (.int .i64 E.clock)) := HJ
  clear h HJ
  go_enter Try.func43, Try.ntmps43
  go_wp2_with (first | (go_at_call 67; refine (HP _ b0).mono ?_; rintro e w1 ⟨rfl, hb1⟩; have q0 := new_cells hb1 0 (v := .int .i64 p) rfl; have q1 := new_cells hb1 1 (v := .int .i64 q) rfl; have r1 : Hid (Below w.heap.size w w1) := bstep b0 hb1; clear hb1) | fail)
  clear HP b0
  have c0 := (Hh.out.still r1.out).c0
  have hsz1 := r1.out.size
  have hlt1 : w.heap.size < w1.heap.size := World.block_lt_of_cell? w1 _ q0
  go_region_held3 (fun w' => w'.cell? ⟨w.heap.size, 0, none⟩ = some (.int .i64 p) ∧ w'.cell? ⟨w.heap.size, 1, none⟩ = some (.int .i64 q) ∧ w'.cell? ⟨E.b, 0, none⟩ = some (.int .i64 E.clock))
    (first | exact ⟨s0, s1, sc⟩ | exact ⟨p0, p1, pc⟩ | go_keep)
    (first
      | (go_at_call 68; refine (HD.out _ (by first | exact r1.out.drew | exact r1.out)).mono ?_; rintro e w2 ⟨rfl, hb2⟩; have r2 : Hid (Below w.heap.size w w2) := (bstep (by first | exact r1.out.drew | exact r1.out) hb2); have p0 : w2.cell? ⟨w.heap.size, 0, none⟩ = some (.int .i64 p) := ((hb2.cell hlt1).trans q0); have p1 : w2.cell? ⟨w.heap.size, 1, none⟩ = some (.int .i64 q) := ((hb2.cell hlt1).trans q1); have pc : w2.cell? ⟨E.b, 0, none⟩ = some (.int .i64 E.clock) := (Hh.out.still r2.out).c0; clear hb2)
      | (go_at_call 64; refine (HJ'.out _ (by first | exact r2.out | exact r2.out.drew)).mono ?_; rintro e w3 ⟨⟨x, y, rfl⟩, hR, hk, sc⟩; have s0 := hk w.heap.size 0 _ (Nat.le_refl _) (by first | exact p0 | exact p0); have s1 := hk w.heap.size 1 _ (Nat.le_refl _) (by first | exact p1 | exact p1); clear hk))
  all_goals (go_wp2; first | exact hR | (go_ret2; exact hR))
end
end Go.Proofs.Ythogcanfinjfdaa.Et
namespace Go.Proofs.Ythogcanfinjfdaa.Et
open Go.RowKit Go.Maps
set_option linter.unusedVariables false
set_option linter.unusedSimpArgs false
set_option maxRecDepth 100000
section
variable {E E' : En} {w w' W : World} {B m : Nat}
theorem below_at {k i : Nat} {v : Value} (hb : Below w.heap.size w w') (hc : w.cell? ⟨k, i, none⟩ = some v) : w'.cell? ⟨k, i, none⟩ = some v := (hb.cell (World.block_lt_of_cell? w _ hc)).trans hc
def nf (E : En) (p q : Nat) (n : Nat) (bs : List Int) (g : Nat) : Fx := ⟨wN E, p, q, IntKind.i64.wrap (E.clock + E.dl p q), some ⟨g, 0, none⟩, n, n, bs⟩
def added (E : En) (f : Fx) (a : Option Addr) (c : Nat) : En := { E with last := wN E, va := a, vc := c, fs := E.fs ++ [f] }

theorem launch_full (h : E.Ok w B m) (p q : Nat) (hp : p < 16) (hq : q < 16) (hc : E.cut p q = false) (ao : Option Addr) (n c : Nat) (hl : E.room ≤ E.fs.length) :
    Calls Try.prog 43 #[.pointer (some ⟨E.b, 0, none⟩), .agg #[.int .i64 p, .int .i64 q], .slice ao n c] w fun e w' => e = .returned (.tuple #[.int .i64 0, .int .i64 31]) ∧ Below w.heap.size w w' :=
  launch_go h p q hp hq hc ao n c _ fun w' hb => (join_no (h.still hb) ⟨0, p, q, IntKind.i64.wrap (E.clock + E.dl p q), ao, n, c, []⟩ hl).mono fun e w2 ⟨h1, h2⟩ => ⟨⟨0, 31, h1⟩, ⟨h1, bstep hb h2⟩, fun k i v _ hc => below_at h2 hc, ((h.still hb).still h2).c0⟩
theorem launch_ok (h : E.Ok w B m) (hB : B ≤ w.heap.size) (p q : Nat) (hp : p < E.nn) (hq : q < E.nn) (hpq : p ≠ q) (hc : E.cut p q = false) (ao : Option Addr) (n c : Nat) (bs : List Int) (hr : Rd w ao n c bs) (hlen : n ≤ 140737488355328) (hl : E.fs.length < E.room) (hR : E.room ≤ 20000) :
    Calls Try.prog 43 #[.pointer (some ⟨E.b, 0, none⟩), .agg #[.int .i64 p, .int .i64 q], .slice ao n c] w fun e w' => e = .returned (.tuple #[.int .i64 (wN E), .int .i64 0]) ∧ ∃ g a c, Step w w' E (added E (nf E p q n bs g) a c) B m :=
  launch_go h p q (by have := h.n16; omega) (by have := h.n16; omega) hc ao n c _ fun w' hb => (join_ok (h.still hb) (Nat.le_trans hB hb.size) ⟨0, p, q, IntKind.i64.wrap (E.clock + E.dl p q), ao, n, c, bs⟩ (hr.still hb) hlen ⟨p, q, rfl, rfl, hp, hq, hpq⟩ hl hR).mono fun e w2 ⟨h1, g, a, c', hs⟩ => ⟨⟨_, _, h1⟩, ⟨h1, g, a, c', Step.pre hb hs⟩, fun k i v hk hc => hs.cell (fun ho => by have := h.ltOwn ho; omega) hc, hs.ok.c0⟩

set_option maxHeartbeats 1000000 in
theorem post_arg (h : E.Ok w B m) (p q : Int) (ao : Option Addr) (n c : Nat) (hno : (isP E p q && decide ((n : Int) ≤ 40000)) = false) : Calls Try.prog 14 #[.pointer (some ⟨E.b, 0, none⟩), .int .i64 p, .int .i64 q, .slice ao n c] w fun e w' => e = .returned (.tuple #[.int .i64 0, .int .i64 1]) ∧ Below w.heap.size w w' := by
  have b0 : Below w.heap.size w (w.alloc (.cells #[.int .i64 p, .int .i64 q] 99)) := balloc (Below.refl _ w)
  have HC := canCarry_any (h.still b0) p q ao n c
  rw [hno] at HC
  clear h
  go_enter Try.func14, Try.ntmps14
  go_wp2_with (first | (go_at_call 42; refine HC.mono ?_; rintro e w1 ⟨rfl, hb1⟩; have r1 : Hid (Below w.heap.size w w1) := bstep b0 hb1; clear hb1) | fail)
  go_ret2
  exact ⟨rfl, r1.out⟩

set_option maxHeartbeats 1000000 in
theorem post_down (h : E.Ok w B m) (p : Nat) (q : Int) (ao : Option Addr) (n c : Nat) (hp : p < E.nn) (hno : (isP E p q && decide ((n : Int) ≤ 40000)) = true) (hu : E.up p = false) : Calls Try.prog 14 #[.pointer (some ⟨E.b, 0, none⟩), .int .i64 p, .int .i64 q, .slice ao n c] w fun e w' => e = .returned (.tuple #[.int .i64 0, .int .i64 32]) ∧ Below w.heap.size w w' := by
  have b0 : Below w.heap.size w (w.alloc (.cells #[.int .i64 p, .int .i64 q] 99)) := balloc (Below.refl _ w)
  have HC := canCarry_any (h.still b0) p q ao n c
  rw [hno] at HC
  have Hh : Hid (E.Ok w B m) := h
  have hn := h.n16
  clear h
  go_enter Try.func14, Try.ntmps14
  go_wp2_with (first | (go_at_call 42; refine HC.mono ?_; rintro e w1 ⟨rfl, hb1⟩; have r1 : Hid (Below w.heap.size w w1) := bstep b0 hb1; have c1 := (Hh.out.still r1.out).c1; have d0 := ((Hh.out.still r1.out).nodC hp).1; rw [hu] at d0; clear hb1) | fail)
  go_ret2
  exact ⟨rfl, r1.out⟩

set_option maxHeartbeats 1000000 in
theorem post_go (h : E.Ok w B m) (p : Nat) (q : Int) (ao : Option Addr) (n c : Nat) (hp : p < E.nn) (hno : (isP E p q && decide ((n : Int) ≤ 40000)) = true) (hu : E.up p = true) (R : Ending → World → Prop)
    (HL : ∀ w', Below w.heap.size w w' → Calls Try.prog 43 #[.pointer (some ⟨E.b, 0, none⟩), .agg #[.int .i64 p, .int .i64 q], .slice ao n c] w' fun e w2 => (∃ x y, e = .returned (.tuple #[.int .i64 x, .int .i64 y])) ∧ R e w2) :
    Calls Try.prog 14 #[.pointer (some ⟨E.b, 0, none⟩), .int .i64 p, .int .i64 q, .slice ao n c] w R := by
  have b0 : Below w.heap.size w (w.alloc (.cells #[.int .i64 p, .int .i64 q] 99)) := balloc (Below.refl _ w)
  have HC := canCarry_any (h.still b0) p q ao n c
  rw [hno] at HC
  have Hh : Hid (E.Ok w B m) := h
  have hn := h.n16
  clear h
  go_enter Try.func14, Try.ntmps14
  go_wp2_with (first | (go_at_call 42; refine HC.mono ?_; rintro e w1 ⟨rfl, hb1⟩; have q0 := new_cells hb1 0 (v := .int .i64 p) rfl; have q1 := new_cells hb1 1 (v := .int .i64 q) rfl; have r1 : Hid (Below w.heap.size w w1) := bstep b0 hb1; have c1 := (Hh.out.still r1.out).c1; have d0 := ((Hh.out.still r1.out).nodC hp).1; rw [hu] at d0; clear hb1) | (go_at_call 43; refine (HL _ r1.out).mono ?_; rintro e w2 ⟨⟨x, y, rfl⟩, hR⟩) | fail)
  all_goals first | exact hR | (go_ret2; exact hR)

set_option maxHeartbeats 1000000 in
theorem inject_arg (h : E.Ok w B m) (p q : Int) (ao : Option Addr) (n c : Nat) (hno : (isP E p q && decide ((n : Int) ≤ 40000)) = false) : Calls Try.prog 41 #[.pointer (some ⟨E.b, 0, none⟩), .agg #[.int .i64 p, .int .i64 q], .slice ao n c] w fun e w' => e = .returned (.int .i64 1) ∧ Below w.heap.size w w' := by
  have b0 : Below w.heap.size w (w.alloc (.cells #[.int .i64 p, .int .i64 q] 99)) := balloc (Below.refl _ w)
  have HC := canCarry_any (h.still b0) p q ao n c
  rw [hno] at HC
  clear h
  go_enter Try.func41, Try.ntmps41
  go_wp2_with (first | (go_at_call 42; refine HC.mono ?_; rintro e w1 ⟨rfl, hb1⟩; have r1 : Hid (Below w.heap.size w w1) := bstep b0 hb1; clear hb1) | fail)
  go_ret
  exact ⟨rfl, r1.out⟩

set_option maxHeartbeats 1000000 in
theorem inject_go (h : E.Ok w B m) (p q : Int) (ao : Option Addr) (n c : Nat) (hno : (isP E p q && decide ((n : Int) ≤ 40000)) = true) (R : Int → World → Prop)
    (HL : ∀ w', Below w.heap.size w w' → Calls Try.prog 43 #[.pointer (some ⟨E.b, 0, none⟩), .agg #[.int .i64 p, .int .i64 q], .slice ao n c] w' fun e w2 => ∃ x y, e = .returned (.tuple #[.int .i64 x, .int .i64 y]) ∧ R y w2) :
    Calls Try.prog 41 #[.pointer (some ⟨E.b, 0, none⟩), .agg #[.int .i64 p, .int .i64 q], .slice ao n c] w fun e w' => ∃ y, e = .returned (.int .i64 y) ∧ R y w' := by
  have b0 : Below w.heap.size w (w.alloc (.cells #[.int .i64 p, .int .i64 q] 99)) := balloc (Below.refl _ w)
  have HC := canCarry_any (h.still b0) p q ao n c
  rw [hno] at HC
  clear h
  go_enter Try.func41, Try.ntmps41
  go_wp2_with (first | (go_at_call 42; refine HC.mono ?_; rintro e w1 ⟨rfl, hb1⟩; have q0 := new_cells hb1 0 (v := .int .i64 p) rfl; have q1 := new_cells hb1 1 (v := .int .i64 q) rfl; have r1 : Hid (Below w.heap.size w w1) := bstep b0 hb1; clear hb1) | (go_at_call 43; refine (HL _ r1.out).mono ?_; rintro e w2 ⟨x, y, rfl, hR⟩) | fail)
  all_goals first | exact ⟨_, rfl, hR⟩ | (go_ret; exact ⟨_, rfl, hR⟩)
end
end Go.Proofs.Ythogcanfinjfdaa.Et
