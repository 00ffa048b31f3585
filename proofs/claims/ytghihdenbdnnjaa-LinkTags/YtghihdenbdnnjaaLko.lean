import Derived.Test.YtghihdenbdnnjaaLkn
import Derived.Lib.SliceRun
namespace Go.Proofs.Ytghihdenbdnnjaa.Ln
open Go.RowKit Mb
set_option linter.unusedVariables false
set_option maxRecDepth 100000
set_option linter.unusedSimpArgs false
section
variable {w w' W : World} {B win room : Nat} {S S' : St} {E E' : En} {M M' : Mx}
structure RdI (w : World) (ao : Option Addr) (n c : Nat) (xs : List Int) : Prop where
  len : xs.length = n
  cap : n ≤ c
  nil : ao = none → c = 0
  at_ : n = 0 ∨ ∃ b off, ao = some ⟨b, off, none⟩ ∧ ∀ i, i < n → w.cell? ⟨b, off + i, none⟩ = some (.int .i64 (xs.getD i 0))
theorem RdI.still {ao : Option Addr} {n c : Nat} {xs : List Int} (h : RdI w ao n c xs) (hb : Below w.heap.size w w') : RdI w' ao n c xs :=
  ⟨h.len, h.cap, h.nil, h.at_.elim (fun hh => .inl hh) (fun ⟨b, off, e, hc⟩ => .inr ⟨b, off, e, fun i hi => below_at hb (hc i hi)⟩)⟩
theorem RdI.keep {P : Nat → Prop} {ao : Option Addr} {n c : Nat} {xs : List Int} (h : RdI w ao n c xs) (k : Kept w w' P) (hp : In ao fun b => ¬ P b) : RdI w' ao n c xs :=
  ⟨h.len, h.cap, h.nil, h.at_.elim (fun hh => .inl hh) (fun ⟨b, off, e, hc⟩ => .inr ⟨b, off, e, fun i hi => kept_cell k (hp b off e) (hc i hi)⟩)⟩
theorem ptr_info : ∃ i : TypeInfo, Try.prog.info? 71 = some i ∧ i.zero = some (.pointer none) ∧ i.size = 1 ∧ i.bytes = 8 := by
  have h : (Try.prog.info? 71).map (fun i => (i.zero, i.size, i.bytes)) = some (some (.pointer none), 1, 8) := by kernel_rfl
  cases hq : Try.prog.info? 71 with
  | none => rw [hq] at h; cases h
  | some i => rw [hq] at h; simp at h; exact ⟨i, rfl, h.1, h.2.1, h.2.2⟩
theorem wl_makeP {ops : Array Oper} {rest : List Oper} {o : Oper} {a : Act} {Q : Exit → Act → World → Prop} (hg : o.guard = none) (l c : Operand) (hop : o.op = Op.makeSlice 75 l c) (x y : Int) (n : Nat) (hl : a.eval l = .int .i64 x) (hc : a.eval c = .int .i64 y) (hx : x = (n : Int)) (hy : y = (n : Int)) (hn : n ≤ 1000000)
    (h : ∀ w', Fb w' w.heap.size 71 n (fun _ => .pointer none) → Below w.heap.size w w' → w'.heap.size = w.heap.size + 1 → wpList Try.prog ops Q rest (a.put o.dst (.slice (some ⟨w.heap.size, 0, none⟩) n n)) w') : wpList Try.prog ops Q (o :: rest) a w := by
  obtain ⟨i0, hi, hz0, hz1, hz2⟩ := ptr_info
  refine wpList_step fun K hK => ?_
  have hw : Region.wanted o (yielded ops a.tmps) = true := by simp [Region.wanted, hg]
  rw [if_pos hw]
  have hrun := run_make (P := Try.prog) w 75 71 i0 (.pointer none) Try.underlying75 hi hz0 .i64 .i64 n n (by omega) (Int.le_refl _) (by rw [hz2]; omega) (by omega)
  simp only [Int.toNat_natCast, hz1, Nat.mul_one] at hrun
  subst hx
  subst hy
  unfold Oper.wp
  simp [execOp, hop, hl, hc, hrun, Result.andThen]
  refine hK _ _ (h _ ?_ ((Below.refl _ _).alloc (Nat.le_refl _) _) (by simp))
  refine ⟨_, heap_alloc_new _ _, by simp [size_madeCells], fun i hi => ?_⟩
  rw [← Array.getElem?_toList]
  show (madeCells #[Value.pointer none] n).toList[i]? = _
  rw [toList_madeCells_one]
  simp [hi]
def mnew (b br n self win room : Nat) : Mx := ⟨b, br, n, self, win, room, ⟨0, 0, 0, 0⟩, fun _ => none⟩
set_option maxHeartbeats 1000000 in
theorem new_ok {n self win room : Nat} (h1 : 1 ≤ n) (h2 : n ≤ 16) (h3 : self < n) (h4 : 1 ≤ win) (h5 : win ≤ room) (h6 : room ≤ 20000) : Calls Try.prog 32 #[.int .i64 (n : Int), .int .i64 (self : Int), .int .i64 (win : Int), .int .i64 (room : Int)] w fun e w' => e = .returned (.tuple #[.pointer (some ⟨w.heap.size + 1, 0, none⟩), .int .i64 0]) ∧ (mnew (w.heap.size + 1) w.heap.size n self win room).Ok w' w.heap.size ∧ Below w.heap.size w w' := by
  have e1 : inR 1 16 (n : Int) = true := inR_t (by omega) (by omega)
  have e2 : inR 0 ((n : Int) - 1) (self : Int) = true := inR_t (by omega) (by omega)
  have e3 : inR 1 20000 (room : Int) = true := inR_t (by omega) (by omega)
  have e4 : inR 1 (room : Int) (win : Int) = true := inR_t (by omega) (by omega)
  go_enter Try.func32, Try.ntmps32
  go_wp2_with (first | (go_at_call 36; refine (within_any _ _ _).mono ?_; rintro e w' ⟨rfl, rfl⟩) | (at_make; refine wl_makeP rfl _ _ rfl _ _ n rfl rfl rfl rfl (by omega) ?_) | fail)
  intro w1 hf hb hs
  have HF : Hid (Fb w1 w.heap.size 71 n (fun _ => .pointer none)) := hf
  have HB : Hid (Below w.heap.size w w1) := hb
  have HX : Hid ((mnew (w.heap.size + 1) w.heap.size n self win room).Ok (w1.alloc (.cells (mnew (w.heap.size + 1) w.heap.size n self win room).cs 77)) w.heap.size) := ⟨by rw [show w.heap.size + 1 = w1.heap.size by omega]; exact heap_alloc_new _ _, hf.keep (Kept.ofBelow (balloc (Below.refl _ _)) (fun _ => False)) id, fun q e he => (by cases he), fun p q e f _ he => (by cases he), fun _ _ => rfl, ⟨h1, h2, h3⟩, ⟨h4, h5, h6⟩, ⟨by show w.heap.size ≤ w.heap.size + 1; omega, Nat.le_refl _⟩⟩
  have Hs : Hid (w1.heap.size = w.heap.size + 1) := hs
  clear hf hb hs
  go_wp2
  exact bodyPost_ret (v := .tuple #[.pointer (some ⟨w1.heap.size, 0, none⟩), .int .i64 0]) (by simp [results, Try.results32, go_sem]) rfl ⟨by rw [Hs.out], HX.out, balloc HB.out⟩
def okP (n self : Nat) : Int → List Int → Bool
  | _, [] => true
  | l, x :: xs => inR l ((n : Int) - 1) x && !(x == (self : Int)) && okP n self (x + 1) xs
theorem okP_mem {n self : Nat} : ∀ {xs : List Int} {l : Int}, 0 ≤ l → okP n self l xs = true → ∀ x ∈ xs, l ≤ x ∧ x < (n : Int) ∧ x ≠ (self : Int)
  | [], l, _, _, x, hx => by cases hx
  | y :: ys, l, hl, h, x, hx => by
      simp only [okP, Bool.and_eq_true, inR, decide_eq_true_eq, Bool.not_eq_true', beq_eq_false_iff_ne] at h
      rcases List.mem_cons.1 hx with rfl | hx
      · exact ⟨h.1.1.1, by omega, h.1.2⟩
      · have := okP_mem (xs := ys) (l := y + 1) (by omega) h.2 x hx
        exact ⟨by omega, this.2⟩
set_option maxHeartbeats 1000000 in
theorem canBe_any (h : M.Ok w B) {ao : Option Addr} {k c : Nat} {xs : List Int} (hr : RdI w ao k c xs) (hkk : k ≤ 1000000000000000) : Calls Try.prog 45 #[.pointer (some ⟨M.b, 0, none⟩), .slice ao k c] w fun e w' => e = .returned (.bool (okP M.n M.self 0 xs)) ∧ w = w' := by
  have c7 : w.cell? ⟨M.b, 7, none⟩ = some (.slice (some ⟨M.br, 0, none⟩) M.n M.n) := h.c 7 rfl
  have c0 : w.cell? ⟨M.b, 0, none⟩ = some (.int .i64 (M.self : Int)) := h.c 0 rfl
  have hn := h.n1
  have Hr : Hid (RdI w ao k c xs) := hr
  clear h hr
  go_enter Try.func45, Try.ntmps45
  go_wp2
  go_loopw [5, 10] (fun v5 v10 wr => ∃ (i : Nat) (l : Int), i ≤ k ∧ v5 = .int .i64 l ∧ v10 = .int .i64 (i : Int) ∧ 0 ≤ l ∧ l ≤ (M.n : Int) ∧ Hid (okP M.n M.self 0 xs = okP M.n M.self l (xs.drop i)) ∧ w = wr) (fun _ v10 _ => k - (intOf v10).toNat)
  case atStart => exact ⟨0, 0, Nat.zero_le _, rfl, rfl, Int.le_refl _, by omega, (show _ = _ from by rw [List.drop_zero]), rfl⟩
  case round =>
    obtain ⟨i, l, hi, rfl, rfl, hl0, hln, Hok, rfl⟩ := hrel
    by_cases hlt : i < k
    · have hlen := Hr.out.len
      obtain ⟨x, hx⟩ : ∃ x, xs.getD i 0 = x := ⟨_, rfl⟩
      have hd : xs.drop i = x :: xs.drop (i + 1) := by
        rw [← hx, List.drop_eq_getElem_cons (by omega)]
        congr 1
        simp [List.getD, show i < xs.length by omega]
      rcases Hr.out.at_ with h0 | ⟨b, off, rfl, hc⟩
      · omega
      · have hcx := hc i hlt
        rw [hx] at hcx
        have HK : Hid (okP M.n M.self 0 xs = (inR l ((M.n : Int) - 1) x && !(x == (M.self : Int)) && okP M.n M.self (x + 1) (xs.drop (i + 1)))) := (show _ = _ from by rw [Hok.out, hd]; rfl)
        have i1 : (0 : Int) ≤ (i : Int) := Int.natCast_nonneg _
        have i2 : (i : Int) < (k : Int) := by omega
        clear hc hd hx hlen
        cases e0 : inR l ((M.n : Int) - 1) x with
        | false =>
          rw [e0] at HK
          go_wp2_with (first | (go_at_call 36; refine (within_any _ _ _).mono ?_; rintro e w' ⟨rfl, rfl⟩) | fail)
          go_ret
          exact ⟨by rw [HK.out]; rfl, rfl⟩
        | true =>
          have hx2 : l ≤ x ∧ x ≤ (M.n : Int) - 1 := by simpa [inR] using e0
          rw [e0] at HK
          cases e1 : (x == (M.self : Int)) with
          | true =>
            rw [e1] at HK
            go_wp2_with (first | (go_at_call 36; refine (within_any _ _ _).mono ?_; rintro e w' ⟨rfl, rfl⟩) | fail)
            go_ret
            exact ⟨by rw [HK.out]; rfl, rfl⟩
          | false =>
            rw [e1] at HK
            have HK2 : Hid (okP M.n M.self 0 xs = okP M.n M.self (x + 1) (xs.drop (i + 1))) := (show _ = _ from by rw [HK.out]; rfl)
            clear HK Hok
            go_wp2_with (first | (go_at_call 36; refine (within_any _ _ _).mono ?_; rintro e w' ⟨rfl, rfl⟩) | fail)
            exact ⟨⟨i + 1, x + 1, by omega, rfl, by go_num, by omega, by omega, HK2, by first | rfl | trivial⟩, by simp [intOf]; omega⟩
    · obtain rfl : i = k := by omega
      have HK2 : Hid (okP M.n M.self 0 xs = true) := (show _ = _ from by rw [Hok.out, List.drop_of_length_le (by have := Hr.out.len; omega)]; rfl)
      clear Hok
      go_wp2
      go_ret
      exact ⟨by simp [HK2.out], rfl⟩
end
end Go.Proofs.Ytghihdenbdnnjaa.Ln
