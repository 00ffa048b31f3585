import Derived.Test.YtghihdenbdnnjaaLko
import Derived.Test.YtghihdenbdnnjaaLkp
namespace Go.Proofs.Ytghihdenbdnnjaa.Ln
open Go.RowKit Mb
set_option linter.unusedVariables false
set_option maxRecDepth 100000
set_option linter.unusedSimpArgs false
section
variable {w w' W : World} {B win room : Nat} {S S' : St} {E E' : En} {M M' : Mx}
def S0 : St := ⟨0, 0, 0, fun _ => none⟩
def E0 (b : Nat) : En := ⟨b, S0, 0, S0, false⟩
theorem s0_ok : S0.Ok w B := ⟨fun h => absurd h (by simp [S0]), fun n b h => (by cases h), fun n b h => (by cases h), fun n m b c h => (by cases h), by simp [S0], by simp [S0]⟩
theorem s0_own {j : Nat} : ¬ S0.own j := by
  rintro (⟨h, _⟩ | ⟨n, b, h, _⟩)
  · simp [S0] at h
  · cases h
theorem e0_ok {b : Nat} (h : w.heap[b]? = some (.cells (E0 b).cs 82 (0, 0))) (hb : B ≤ b) : (E0 b).Ok w B win room :=
  ⟨h, hb, s0_ok, s0_ok, fun j h1 _ => s0_own h1, Nat.le_refl _, by show 0 ≤ 0 + room; omega, by show 0 ≤ _; omega, fun n h1 h2 => (by have h2' : n ≤ 0 := h2; have h1' : 0 < n := h1; omega), fun n b h => (by cases h), fun n b h => (by cases h), rfl⟩
theorem e0_own {b j : Nat} : (E0 b).own j ↔ j = b := ⟨fun h => h.elim id (fun h => h.elim (fun h => (s0_own h).elim) (fun h => (s0_own h).elim)), fun h => .inl h⟩
abbrev zE : Array Value := #[.int .i64 0, .slice none 0 0, .int .i64 0, .int .i64 0, .slice none 0 0, .bool false]
theorem e0_cs (b : Nat) : (E0 b).cs = zE := rfl
def Mx.add (M : Mx) (q kd : Nat) : Mx := { M with es := upd M.es q (some (E0 kd)) }
theorem Mx.Ok.add (h : M.Ok w B) (hB : B ≤ w.heap.size) {q : Nat} (hq : q < M.n) : (M.add q w.heap.size).Ok ((w.alloc (.cells zE 82)).setCell ⟨M.br, q, none⟩ (.pointer (some ⟨w.heap.size, 0, none⟩))) B ∧ Kept w ((w.alloc (.cells zE 82)).setCell ⟨M.br, q, none⟩ (.pointer (some ⟨w.heap.size, 0, none⟩))) (fun j => j = M.br) := by
  have ka : Kept w (w.alloc (.cells zE 82)) (fun j => j = M.br) := Kept.ofBelow (balloc (Below.refl _ _)) _
  have ks : Kept (w.alloc (.cells zE 82)) ((w.alloc (.cells zE 82)).setCell ⟨M.br, q, none⟩ (.pointer (some ⟨w.heap.size, 0, none⟩))) (fun j => j = M.br) := kset _ _ _ _ rfl
  have kk := ka.trans ks
  have hbl := h.row.lt
  have hne : w.heap.size ≠ M.br := by omega
  have hE : ((w.alloc (.cells zE 82)).setCell ⟨M.br, q, none⟩ (.pointer (some ⟨w.heap.size, 0, none⟩))).heap[w.heap.size]? = some (.cells (E0 w.heap.size).cs 82 (0, 0)) := ks.obj (heap_alloc_new _ _) hne
  have hrow := (h.row.keep (Kept.ofBelow (balloc (o := .cells zE 82) (Below.refl _ _)) (fun _ => False)) id).set q (.pointer (some ⟨w.heap.size, 0, none⟩))
  obtain ⟨C, hC, _⟩ := h.row
  refine ⟨⟨kk.obj h.blk (fun e => blk_ne h.blk hC (by decide) e), hrow.congr fun p hp => ?_, fun p f hf => ?_, fun p r f g hpr hf hg j hj hk => ?_, fun p hp => ?_, h.n1, h.w1, h.lo⟩, kk⟩
  · show _ = eptr (upd M.es q (some (E0 w.heap.size)) p)
    by_cases e : p = q
    · rw [if_pos e, e, upd_same]; rfl
    · rw [if_neg e, upd_ne _ _ e]
  · by_cases e : p = q
    · subst e; simp only [Mx.add, upd_same, Option.some.injEq] at hf; subst hf; exact e0_ok hE hB
    · simp only [Mx.add, upd_ne _ _ e] at hf
      exact (h.el p f hf).keep kk fun j hj e => (h.ne_e hf).2 (by rw [← e]; exact hj)
  · by_cases e1 : p = q
    · subst e1
      simp only [Mx.add, upd_same, Option.some.injEq, upd_ne _ _ (Ne.symm hpr)] at hf hg
      subst hf
      have := e0_own.1 hj
      have := (h.el r g hg).lt hk; omega
    · by_cases e2 : r = q
      · subst e2
        simp only [Mx.add, upd_same, Option.some.injEq, upd_ne _ _ e1] at hf hg
        subst hg
        have := e0_own.1 hk
        have := (h.el p f hf).lt hj; omega
      · simp only [Mx.add, upd_ne _ _ e1, upd_ne _ _ e2] at hf hg
        exact h.ap p r f g hpr hf hg j hj hk
  · have hp' : M.n ≤ p := hp
    simp only [Mx.add, upd_ne _ _ (show p ≠ q by omega)]
    exact h.far p hp'
def Mx.cleared (M : Mx) (t : Tg) : Mx := { M with tag := t, es := fun _ => none }
theorem Mx.Ok.clear (h : M.Ok w B) (t : Tg) : (M.cleared t).Ok ((w.setCells M.b 3 t.vs).setCells M.br 0 (List.replicate M.n (.pointer none))) B ∧ Kept w ((w.setCells M.b 3 t.vs).setCells M.br 0 (List.replicate M.n (.pointer none))) (fun j => j = M.b ∨ j = M.br) := by
  have k1 : Kept w (w.setCells M.b 3 t.vs) (fun j => j = M.b) := ksets (P := fun j => j = M.b) rfl _ _ _
  have k2 : Kept (w.setCells M.b 3 t.vs) ((w.setCells M.b 3 t.vs).setCells M.br 0 (List.replicate M.n (.pointer none))) (fun j => j = M.br) := ksets (P := fun j => j = M.br) rfl _ _ _
  obtain ⟨C, hC, _⟩ := h.row
  have hne : M.b ≠ M.br := blk_ne h.blk hC (by decide)
  have hb : (w.setCells M.b 3 t.vs).heap[M.b]? = some (.cells (M.cleared t).cs 77 (0, 0)) := by
    have := sets_list (k := M.b) (t := 77) t.vs 3 w M.cs.toList (by simpa using h.blk) (by show 3 + 4 ≤ 8; omega)
    exact this
  have hrow := Fb.sets (List.replicate M.n (Value.pointer none)) 0 _ _ (h.row.keep k1 (fun e => hne e.symm))
  refine ⟨⟨k2.obj hb hne, hrow.congr fun i hi => ?_, fun q e he => (by cases he), fun p q e f _ he => (by cases he), fun _ _ => rfl, h.n1, h.w1, h.lo⟩, (k1.mono fun j _ e => .inl e).trans (k2.mono fun j _ e => .inr e)⟩
  have hi' : i < M.n := hi
  rw [if_pos (by simp; exact hi')]
  simp [List.getD, hi', Mx.cleared, eptr]
def esT (xs : List Int) (bs : Nat → Nat) (i : Nat) (q : Nat) : Option En := if (q : Int) ∈ xs.take i then some (E0 (bs q)) else none
theorem esT_next {xs : List Int} {bs : Nat → Nat} {i x kd : Nat} (hx : xs[i]? = some (x : Int)) : upd (esT xs bs i) x (some (E0 kd)) = esT xs (upd bs x kd) (i + 1) := by
  funext q
  unfold esT
  rw [List.take_add_one, hx]
  by_cases e : q = x
  · subst e; rw [upd_same, upd_same, if_pos (by simp)]
  · rw [upd_ne _ _ e, upd_ne _ _ e]
    by_cases e2 : (q : Int) ∈ xs.take i
    · rw [if_pos e2, if_pos (by simp [e2])]
    · rw [if_neg e2, if_neg (by simp [e2]; omega)]
structure RsS (w wr : World) (M : Mx) (B : Nat) (t : Tg) (xs : List Int) (i : Nat) (bs : Nat → Nat) : Prop where
  ok : ({ M with tag := t, es := esT xs bs i } : Mx).Ok wr B
  kept : Kept w wr (fun j => j = M.b ∨ j = M.br)
  fr : ∀ q : Nat, (q : Int) ∈ xs.take i → w.heap.size ≤ bs q
theorem RsS.next {wr : World} {t : Tg} {xs : List Int} {i x : Nat} {bs : Nat → Nat} (h : RsS w wr M B t xs i bs) (hB : B ≤ w.heap.size) (hx : xs[i]? = some (x : Int)) (hn : x < M.n) : RsS w ((wr.alloc (.cells zE 82)).setCell ⟨M.br, x, none⟩ (.pointer (some ⟨wr.heap.size, 0, none⟩))) M B t xs (i + 1) (upd bs x wr.heap.size) := by
  have hs := h.kept.size
  obtain ⟨h1, h2⟩ := h.ok.add (by omega) (q := x) hn
  refine ⟨?_, h.kept.trans (h2.mono fun j _ e => .inr e), fun q hq => ?_⟩
  · have : (({ M with tag := t, es := esT xs bs i } : Mx).add x wr.heap.size) = { M with tag := t, es := esT xs (upd bs x wr.heap.size) (i + 1) } := by
      unfold Mx.add
      simp only
      rw [esT_next hx]
    rw [this] at h1
    exact h1
  · by_cases e : q = x
    · subst e; rw [upd_same]; exact hs
    · rw [upd_ne _ _ e]
      refine h.fr q ?_
      rw [List.take_add_one, hx] at hq
      simp at hq
      rcases hq with hq | hq
      · exact hq
      · omega
structure ResO (w w' : World) (M : Mx) (B : Nat) (t : Tg) (xs : List Int) : Prop where
  out : ∃ bs : Nat → Nat, Mstep w w' M { M with tag := t, es := fun q : Nat => if (q : Int) ∈ xs then some (E0 (bs q)) else none } B
theorem RsS.fin {wr : World} {t : Tg} {xs : List Int} {k : Nat} {bs : Nat → Nat} (h : RsS w wr M B t xs k bs) (hk : xs.length ≤ k) : ResO w wr M B t xs := by
  have e : esT xs bs k = fun q : Nat => if (q : Int) ∈ xs then some (E0 (bs q)) else none := by funext q; unfold esT; rw [List.take_of_length_le hk]
  refine ⟨⟨bs, ?_, h.kept.mono fun j _ hj => hj.elim .inl (fun hj => .inr (.inl hj)), ?_⟩⟩
  · rw [← e]; exact h.ok
  · rintro j (rfl | rfl | ⟨q, f, hf, hj⟩)
    · exact .inl (.inl rfl)
    · exact .inl (.inr (.inl rfl))
    · have hf' : (if (q : Int) ∈ xs then some (E0 (bs q)) else none) = some f := hf
      by_cases e2 : (q : Int) ∈ xs
      · rw [if_pos e2] at hf'
        cases hf'
        right
        rw [e0_own.1 hj]
        exact h.fr q (by rw [List.take_of_length_le hk]; exact e2)
      · rw [if_neg e2] at hf'; cases hf'
theorem info_id : (Try.prog.info? 24).map (·.size) = some 4 := by kernel_rfl
theorem tg_one (t : Tg) : ∀ u ∈ t.vs, u.oneCell' = true := by
  intro u hu
  simp [Tg.vs] at hu
  rcases hu with rfl | rfl | rfl | rfl <;> rfl
theorem zero_ptr : ∀ w, (zeroValue 71).run Try.prog w = .ok (.pointer none) w := fun w => by
  rfl
set_option maxHeartbeats 400000 in
theorem reset_tag (t : Tg) {ao : Option Addr} {k c : Nat} (ht : t.whole = false) : Calls Try.prog 22 #[.pointer (some ⟨M.b, 0, none⟩), .agg #[.int .i64 t.e, .int .i64 t.l, .int .i64 t.i, .int .i64 t.c], .slice ao k c] w fun e w' => e = .returned (.int .i64 40) ∧ Below w.heap.size w w' := by
  generalize hW : w.alloc (.cells #[.int .i64 t.e, .int .i64 t.l, .int .i64 t.i, .int .i64 t.c] 24) = W
  have hbW : Below w.heap.size w W := by rw [← hW]; exact balloc (Below.refl _ _)
  have hblk : W.heap[w.heap.size]? = some (.cells #[.int .i64 t.e, .int .i64 t.l, .int .i64 t.i, .int .i64 t.c] 24 (0, 0)) := by rw [← hW]; exact heap_alloc_new _ _
  have a0 : W.cell? ⟨w.heap.size, 0, none⟩ = some (.int .i64 t.e) := blk_cell hblk 0
  have a1 : W.cell? ⟨w.heap.size, 1, none⟩ = some (.int .i64 t.l) := blk_cell hblk 1
  have a2 : W.cell? ⟨w.heap.size, 2, none⟩ = some (.int .i64 t.i) := blk_cell hblk 2
  have a3 : W.cell? ⟨w.heap.size, 3, none⟩ = some (.int .i64 t.c) := blk_cell hblk 3
  have HB : Hid (Below w.heap.size w W) := hbW
  have HWh : Hid (Calls Try.prog 44 #[.agg #[.int .i64 t.e, .int .i64 t.l, .int .i64 t.i, .int .i64 t.c]] W fun e w' => e = .returned (.bool false) ∧ Below W.heap.size W w') := (show Calls _ _ _ _ _ from by rw [← ht]; exact whole_any t)
  clear hblk hbW ht
  go_enter Try.func22, Try.ntmps22
  go_wp2_with (first | (go_at_call 44; refine HWh.out.mono ?_; rintro e w2 ⟨rfl, hb2⟩) | fail)
  go_ret
  exact ⟨rfl, bstep HB.out hb2⟩
set_option maxHeartbeats 400000 in
theorem reset_arg (h : M.Ok w B) (t : Tg) {ao : Option Addr} {k c : Nat} {xs : List Int} (hr : RdI w ao k c xs) (hk : k ≤ 1000000000000000) (ht : t.whole = true) (ho : okP M.n M.self 0 xs = false) : Calls Try.prog 22 #[.pointer (some ⟨M.b, 0, none⟩), .agg #[.int .i64 t.e, .int .i64 t.l, .int .i64 t.i, .int .i64 t.c], .slice ao k c] w fun e w' => e = .returned (.int .i64 1) ∧ Below w.heap.size w w' := by
  generalize hW : w.alloc (.cells #[.int .i64 t.e, .int .i64 t.l, .int .i64 t.i, .int .i64 t.c] 24) = W
  have hbW : Below w.heap.size w W := by rw [← hW]; exact balloc (Below.refl _ _)
  have hblk : W.heap[w.heap.size]? = some (.cells #[.int .i64 t.e, .int .i64 t.l, .int .i64 t.i, .int .i64 t.c] 24 (0, 0)) := by rw [← hW]; exact heap_alloc_new _ _
  have a0 : W.cell? ⟨w.heap.size, 0, none⟩ = some (.int .i64 t.e) := blk_cell hblk 0
  have a1 : W.cell? ⟨w.heap.size, 1, none⟩ = some (.int .i64 t.l) := blk_cell hblk 1
  have a2 : W.cell? ⟨w.heap.size, 2, none⟩ = some (.int .i64 t.i) := blk_cell hblk 2
  have a3 : W.cell? ⟨w.heap.size, 3, none⟩ = some (.int .i64 t.c) := blk_cell hblk 3
  have HB : Hid (Below w.heap.size w W) := hbW
  have HWh : Hid (Calls Try.prog 44 #[.agg #[.int .i64 t.e, .int .i64 t.l, .int .i64 t.i, .int .i64 t.c]] W fun e w' => e = .returned (.bool true) ∧ Below W.heap.size W w') := (show Calls _ _ _ _ _ from by rw [← ht]; exact whole_any t)
  have HC : Hid (∀ w1, Below w.heap.size w w1 → Calls Try.prog 45 #[.pointer (some ⟨M.b, 0, none⟩), .slice ao k c] w1 fun e w' => e = .returned (.bool false) ∧ w1 = w') := fun w1 hb => (show Calls _ _ _ _ _ from by rw [← ho]; exact canBe_any (h.still hb) (hr.still hb) hk)
  clear hblk hbW ht h hr ho
  go_enter Try.func22, Try.ntmps22
  go_wp2_with (first | (go_at_call 44; refine HWh.out.mono ?_; rintro e w2 ⟨rfl, hb2⟩) | (go_at_call 45; refine (HC.out _ (bstep HB.out hb2)).mono ?_; rintro e w3 ⟨rfl, rfl⟩) | fail)
  go_ret
  exact ⟨rfl, bstep HB.out hb2⟩
set_option maxHeartbeats 1000000 in
theorem reset_ok (h : M.Ok w B) (hB : B ≤ w.heap.size) (t : Tg) {ao : Option Addr} {k c : Nat} {xs : List Int} (hr : RdI w ao k c xs) (hap : In ao fun b => ¬ M.own b) (hk : k ≤ 1000000000000000) (ht : t.whole = true) (ho : okP M.n M.self 0 xs = true) : Calls Try.prog 22 #[.pointer (some ⟨M.b, 0, none⟩), .agg #[.int .i64 t.e, .int .i64 t.l, .int .i64 t.i, .int .i64 t.c], .slice ao k c] w fun e w' => e = .returned (.int .i64 0) ∧ ResO w w' M B t xs := by
  generalize hW : w.alloc (.cells #[.int .i64 t.e, .int .i64 t.l, .int .i64 t.i, .int .i64 t.c] 24) = W
  have hbW : Below w.heap.size w W := by rw [← hW]; exact balloc (Below.refl _ _)
  have hblk : W.heap[w.heap.size]? = some (.cells #[.int .i64 t.e, .int .i64 t.l, .int .i64 t.i, .int .i64 t.c] 24 (0, 0)) := by rw [← hW]; exact heap_alloc_new _ _
  have a0 : W.cell? ⟨w.heap.size, 0, none⟩ = some (.int .i64 t.e) := blk_cell hblk 0
  have a1 : W.cell? ⟨w.heap.size, 1, none⟩ = some (.int .i64 t.l) := blk_cell hblk 1
  have a2 : W.cell? ⟨w.heap.size, 2, none⟩ = some (.int .i64 t.i) := blk_cell hblk 2
  have a3 : W.cell? ⟨w.heap.size, 3, none⟩ = some (.int .i64 t.c) := blk_cell hblk 3
  have HB : Hid (Below w.heap.size w W) := hbW
  have HWh : Hid (Calls Try.prog 44 #[.agg #[.int .i64 t.e, .int .i64 t.l, .int .i64 t.i, .int .i64 t.c]] W fun e w' => e = .returned (.bool true) ∧ Below W.heap.size W w') := (show Calls _ _ _ _ _ from by rw [← ht]; exact whole_any t)
  have HC : Hid (∀ w1, Below w.heap.size w w1 → Calls Try.prog 45 #[.pointer (some ⟨M.b, 0, none⟩), .slice ao k c] w1 fun e w' => e = .returned (.bool true) ∧ w1 = w') := fun w1 hb => (show Calls _ _ _ _ _ from by rw [← ho]; exact canBe_any (h.still hb) (hr.still hb) hk)
  have Hm : Hid (∀ x ∈ xs, 0 ≤ x ∧ x < (M.n : Int) ∧ x ≠ (M.self : Int)) := okP_mem (Int.le_refl _) ho
  have Hr : Hid (RdI w ao k c xs) := hr
  have Hap : Hid (In ao fun b => ¬ M.own b) := hap
  have HM : Hid (M.Ok w B) := h
  have hn := h.n1
  have HBw : Hid (B ≤ w.heap.size) := hB
  clear hblk hbW ht h hr ho hap hB
  go_enter Try.func22, Try.ntmps22
  go_wp2_with (first | (go_at_call 44; refine HWh.out.mono ?_) | fail)
  rintro e w2 ⟨rfl, hb2⟩
  have hbw : Below w.heap.size w w2 := bstep HB.out hb2
  have hM2 := HM.out.still hbw
  have d0 := below_at hb2 a0
  have d1 := below_at hb2 a1
  have d2 := below_at hb2 a2
  have d3 := below_at hb2 a3
  have HC2 : Hid (Calls _ _ _ _ _) := HC.out w2 hbw
  have HT : Hid (w2.there M.b 3 4) := (show w2.there M.b 3 4 from fun j hj => ⟨by rw [blk_cell hM2.blk]; simp [Mx.cs]; omega, frozen_of_row w2 _ _ _ _ hM2.blk⟩)
  obtain ⟨C, hC, _⟩ := hM2.row
  have hne : M.b ≠ M.br := blk_ne hM2.blk hC (by decide)
  generalize hU : w2.setCells M.b 3 [.int .i64 t.e, .int .i64 t.l, .int .i64 t.i, .int .i64 t.c] = U
  have kU : Kept w2 U (fun j => j = M.b) := by rw [← hU]; exact ksets (P := fun j => j = M.b) rfl _ _ _
  have hrowU := hM2.row.keep kU (fun e => hne e.symm)
  have c7 : U.cell? ⟨M.b, 7, none⟩ = some (.slice (some ⟨M.br, 0, none⟩) M.n M.n) := by
    have hb : U.heap[M.b]? = some (.cells (M.cleared t).cs 77 (0, 0)) := by
      rw [← hU]
      exact sets_list (k := M.b) (t := 77) t.vs 3 w2 M.cs.toList (by simpa using hM2.blk) (by show 3 + 4 ≤ 8; omega)
    exact (blk_cell hb 7).trans rfl
  generalize hU2 : U.setCells M.br 0 (List.replicate M.n (.pointer none)) = U2
  have hcl : ∀ ty, (Builtin.clear_ #[75] ty #[.slice (some ⟨M.br, 0, none⟩) M.n M.n]).run Try.prog U = .ok (.tuple #[]) U2 := fun ty => by
    rw [← hU2]
    exact Lib.run_clear_slice U 75 71 ty (.pointer none) Try.underlying75 zero_ptr rfl rfl M.br 0 M.n M.n (by omega) (fun j hj => by rw [Nat.zero_add, hrowU.cell j hj]; rfl) (fun j hj => hrowU.fz _)
  have HS0 : Hid (RsS w U2 M B t xs 0 (fun _ => 0)) := (show RsS _ _ _ _ _ _ _ _ from by
    have e1 := hM2.clear t
    have e2 : (w2.setCells M.b 3 t.vs).setCells M.br 0 (List.replicate M.n (.pointer none)) = U2 := by rw [← hU2, ← hU]; rfl
    rw [e2] at e1
    refine ⟨?_, (Kept.ofBelow hbw _).trans e1.2, fun q hq => (by simp at hq)⟩
    have e3 : ({ M with tag := t, es := esT xs (fun _ => 0) 0 } : Mx) = M.cleared t := by unfold Mx.cleared; congr 1
    rw [e3]; exact e1.1)
  clear hM2 hC hrowU kU hbw hU2 hb2
  go_wp2_with (first | (go_at_call 45; refine HC2.out.mono ?_; rintro e w3 ⟨rfl, rfl⟩) | (refine at_store 24 _ _ rfl ?_; refine wl_storeL rfl 24 _ _ rfl (L := [.int .i64 t.e, .int .i64 t.l, .int .i64 t.i, .int .i64 t.c]) rfl rfl HT.out info_id (tg_one t) ?_; rw [hU]) | fail)
  go_loopw [26] (fun v26 wr => ∃ (i : Nat) (bs : Nat → Nat), i ≤ k ∧ v26 = .int .i64 (i : Int) ∧ Hid (RsS w wr M B t xs i bs)) (fun v26 _ => k - (intOf v26).toNat)
  case atStart => exact ⟨0, _, Nat.zero_le _, rfl, HS0⟩
  case round =>
    obtain ⟨i, bs, hi, rfl, hs⟩ := hrel
    by_cases hlt : i < k
    · have hlen := Hr.out.len
      have hxm : xs.getD i 0 ∈ xs := by simp [List.getD, show i < xs.length by omega]
      have hxr := Hm.out _ hxm
      obtain ⟨x, hx⟩ : ∃ x : Nat, xs.getD i 0 = (x : Int) := ⟨(xs.getD i 0).toNat, by omega⟩
      rw [hx] at hxr
      have hxi : xs[i]? = some (x : Int) := by rw [← hx]; simp [List.getD, show i < xs.length by omega]
      rcases Hr.out.at_ with h0 | ⟨b, off, rfl, hc⟩
      · omega
      · have hbo : ¬ (b = M.b ∨ b = M.br) := fun e => Hap.out b off rfl (e.elim .inl (fun e => .inr (.inl e)))
        have hcx : wr.cell? ⟨b, off + i, none⟩ = some (.int .i64 (x : Int)) := by rw [← hx]; exact kept_cell hs.out.kept hbo (hc i hlt)
        have e7 : wr.cell? ⟨M.b, 7, none⟩ = some (.slice (some ⟨M.br, 0, none⟩) M.n M.n) := hs.out.ok.c 7 rfl
        have hrow : Fb wr M.br 71 M.n (fun q => eptr (esT xs bs i q)) := hs.out.ok.row
        have HN : Hid (RsS w ((wr.alloc (.cells zE 82)).setCell ⟨M.br, x, none⟩ (.pointer (some ⟨wr.heap.size, 0, none⟩))) M B t xs (i + 1) (upd bs x wr.heap.size)) := hs.out.next HBw.out hxi (by omega)
        generalize hV : wr.alloc (.cells zE 82) = V at *
        have hbV : Below wr.heap.size wr V := by rw [← hV]; exact balloc (Below.refl _ _)
        have g7 := below_at hbV e7
        have gx : V.cell? ⟨M.br, x, none⟩ = some (eptr (esT xs bs i x)) := below_at hbV (hrow.cell x (by omega))
        obtain ⟨pv, hpv⟩ : ∃ pv, eptr (esT xs bs i x) = .pointer pv := by cases esT xs bs i x <;> exact ⟨_, rfl⟩
        rw [hpv] at gx
        have gf : V.frozen? ⟨M.br, x, none⟩ = false := by
          have := hrow.keep (Kept.ofBelow hbV (fun _ => False)) id
          exact this.fz x
        have i1 : (0 : Int) ≤ (i : Int) := Int.natCast_nonneg _
        have i2 : (i : Int) < (k : Int) := by omega
        have j1 : (0 : Int) ≤ (x : Int) := Int.natCast_nonneg _
        have j2 : (x : Int) < (M.n : Int) := by omega
        clear hs hc hx hxi hxm hxr hbo hrow hbV hpv
        go_wp2
        exact ⟨⟨i + 1, _, by omega, by go_num, HN⟩, by simp [intOf]; omega⟩
    · obtain rfl : i = k := by omega
      have HX : Hid (ResO w wr M B t xs) := hs.out.fin (by rw [Hr.out.len]; exact Nat.le_refl _)
      clear hs
      go_wp2
      go_ret
      exact ⟨rfl, HX.out⟩
end
end Go.Proofs.Ytghihdenbdnnjaa.Ln
