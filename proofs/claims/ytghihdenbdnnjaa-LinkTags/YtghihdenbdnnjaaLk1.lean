import Derived.Test.YtghihdenbdnnjaaLkw3
import Derived.Test.YtghihdenbdnnjaaLkx
import Derived.Test.YtghihdenbdnnjaaLky2
import Derived.Test.YtghihdenbdnnjaaLkz
import Derived.Test.YtghihdenbdnnjaaLk0
namespace Go.Proofs.Ytghihdenbdnnjaa.Ln
open Go.RowKit Mb
set_option linter.unusedVariables false
set_option maxRecDepth 100000
set_option linter.unusedSimpArgs false
def Ac.s (x : Ac) : Nat := (absI x.side).toNat % 2
def Px.act (P : Px) (x : Ac) : Px :=
  if x.kind = 1 then P.push x.s (cutB x.bs) else if x.kind = 2 then P.show x.s else if x.kind = 3 then P.owe x.s else if x.kind = 4 then P.carry x.s x.n else if x.kind = 5 then P.answer x.s x.n else P
theorem Ac.s2 (x : Ac) : x.s < 2 := Nat.mod_lt _ (by omega)
section
variable {w w' W : World} {B : Nat} {X X' : Wr} {P : Px}
theorem XO.pre {P' : Px} {e : Ending} (h : X.Ok w B) (hb : Below w.heap.size w W) (x : XO W w' X B P' e) : XO w w' X B P' e := by
  obtain ⟨X', h1, h2⟩ := x.out
  exact ⟨x.ret, X', (Xstep.below h hb).trans h1, h2⟩
theorem Px.Inv.act (h : P.Inv) (x : Ac) (hby : By x.bs) : (P.act x).Inv := by
  have hs := x.s2
  unfold Px.act
  split
  · exact h.push hs (cutB_len _).1 (cutB_len _).2 (cutB_by hby)
  · split
    · exact h.show hs
    · split
      · exact h.owe hs
      · split
        · exact h.carry hs _
        · split
          · exact h.answer hs _
          · exact h
theorem numb_len' (P : Px) (s : Nat) (hw : P.win ≤ 5) : (numb (P.E s).op (P.shown s)).length ≤ 5 := by
  rw [numb_len]
  have := takeP_len (P.E s).ob P.win (P.E s).op
  unfold Px.shown
  omega
theorem Px.Sz.act {T : Nat} (h : P.Sz T) (x : Ac) (hw : P.win ≤ 5) : (P.act x).Sz (T + 1) := by
  have mono : P.Sz (T + 1) := fun s hs => by have := h s hs; omega
  intro s hs
  have h0 := h s hs
  unfold Px.act
  split
  · unfold Px.push
    split
    · by_cases e : s = x.s
      · rw [e] at h0 ⊢; simp only [upd_same, List.length_append, List.length_cons, List.length_nil]; omega
      · simp only [upd_ne _ _ e]; omega
    · exact mono s hs
  · split
    · unfold Px.show
      have := numb_len' P x.s hw
      by_cases e : s = x.s
      · rw [e] at h0 ⊢; simp only [upd_same, List.length_append]; omega
      · simp only [upd_ne _ _ e]; omega
    · split
      · unfold Px.owe
        split
        · by_cases e : s = x.s
          · rw [e] at h0 ⊢; simp only [upd_same, List.length_append, List.length_cons, List.length_nil]; omega
          · simp only [upd_ne _ _ e]; omega
        · exact mono s hs
      · split
        · unfold Px.carry
          split
          · exact mono s hs
          · unfold Px.take
            split <;> exact mono s hs
        · split
          · unfold Px.answer
            split <;> exact mono s hs
          · exact mono s hs
theorem act_win (P : Px) (x : Ac) : (P.act x).win = P.win ∧ (P.act x).space = P.space := by
  unfold Px.act Px.push Px.show Px.owe Px.carry Px.take Px.answer
  repeat' split
  all_goals exact ⟨rfl, rfl⟩
theorem rem2 (x : Ac) : Int.tmod (absI x.side) 2 = (x.s : Int) := by
  have := rem_nat (absI_nn x.side) 2
  exact this
theorem wowe_any (h : X.Ok w B) (hI : X.pu.Inv) {T : Nat} (hT : X.pu.Sz T) (hT2 : T ≤ 1000) (hB : B ≤ w.heap.size) {s : Nat} (hs : s < 2) : Calls Try.prog 33 #[.pointer (some ⟨X.b, 0, none⟩), .int .i64 (s : Int)] w fun e w' => XO w w' X B (X.pu.owe s) e := by
  rcases Bool.eq_false_or_eq_true (X.e s).owed with ho | ho
  · exact wowe_yes h hI hT hT2 hB hs ho
  · have e : X.pu.owe s = X.pu := by unfold Px.owe; rw [if_neg (by rw [show (X.pu.E s).owed = false from ho]; simp)]
    rw [e]
    exact wowe_none h hs ho
set_option maxHeartbeats 2000000 in
theorem wact_any (h : X.Ok w B) (hI : X.pu.Inv) {T : Nat} (hT : X.pu.Sz T) (hT2 : T ≤ 1000) (hB : B ≤ w.heap.size) (x : Ac) (hd0 : -9223372036854775808 ≤ x.side) (hd1 : x.side ≤ 9223372036854775807) (hn0 : -9223372036854775808 ≤ x.n) (hn1 : x.n ≤ 9223372036854775807) {ao : Option Addr} {n c : Nat} (hr : Rd w ao n c x.bs) (hap : 0 < n → In ao fun b => ¬ X.own b) : Calls Try.prog 12 #[.pointer (some ⟨X.b, 0, none⟩), .agg #[.int .i64 x.side, .int .i64 x.kind, .int .i64 x.n, .slice ao n c]] w fun e w' => XO w w' X B (X.pu.act x) e := by
  generalize hW : w.alloc (.cells #[.int .i64 x.side, .int .i64 x.kind, .int .i64 x.n, .slice ao n c] 47) = W
  have hbW : Below w.heap.size w W := by rw [← hW]; exact balloc (Below.refl _ _)
  have hblk : W.heap[w.heap.size]? = some (.cells #[.int .i64 x.side, .int .i64 x.kind, .int .i64 x.n, .slice ao n c] 47 (0, 0)) := by rw [← hW]; exact heap_alloc_new _ _
  have a0 : W.cell? ⟨w.heap.size, 0, none⟩ = some (.int .i64 x.side) := blk_cell hblk 0
  have a1 : W.cell? ⟨w.heap.size, 1, none⟩ = some (.int .i64 x.kind) := blk_cell hblk 1
  have a2 : W.cell? ⟨w.heap.size, 2, none⟩ = some (.int .i64 x.n) := blk_cell hblk 2
  have a3 : W.cell? ⟨w.heap.size, 3, none⟩ = some (.slice ao n c) := blk_cell hblk 3
  have hXW := h.still hbW
  have hBW : B ≤ W.heap.size := Nat.le_trans hB hbW.size
  have hrW := hr.still hbW
  have hapW := hap
  have hrem := rem2 x
  have Hab : Hid (Calls Try.prog 30 #[.int .i64 x.side] W fun e w' => e = .returned (.int .i64 (absI x.side)) ∧ W = w') := abs_any hd0 hd1
  have Hh : Hid (X.Ok w B) := h
  have HbW : Hid (Below w.heap.size w W) := hbW
  have hn2 := absI_nn x.side
  have H1 : Hid (Calls Try.prog 8 #[.pointer (some ⟨X.b, 0, none⟩), .int .i64 (x.s : Int), .slice ao n c] W fun e w' => XO W w' X B (X.pu.push x.s (cutB x.bs)) e) := wpush_any hXW hI hT hT2 x.s2 hrW hapW hBW
  have H2 : Hid (Calls Try.prog 9 #[.pointer (some ⟨X.b, 0, none⟩), .int .i64 (x.s : Int)] W fun e w' => XO W w' X B (X.pu.show x.s) e) := wshow_any hXW hI hT hT2 hBW x.s2
  have H3 : Hid (Calls Try.prog 33 #[.pointer (some ⟨X.b, 0, none⟩), .int .i64 (x.s : Int)] W fun e w' => XO W w' X B (X.pu.owe x.s) e) := wowe_any hXW hI hT hT2 hBW x.s2
  have H4 : Hid (Calls Try.prog 10 #[.pointer (some ⟨X.b, 0, none⟩), .int .i64 (x.s : Int), .int .i64 x.n] W fun e w' => XO W w' X B (X.pu.carry x.s x.n) e) := wcarry_any hXW hI hT hT2 hBW x.s2 hn0 hn1
  have H5 : Hid (Calls Try.prog 34 #[.pointer (some ⟨X.b, 0, none⟩), .int .i64 (x.s : Int), .int .i64 x.n] W fun e w' => XO W w' X B (X.pu.answer x.s x.n) e) := wanswer_any hXW hI x.s2 hn0 hn1
  have HPa : Hid (∀ k : Int, x.kind = k → X.pu.act x = if k = 1 then X.pu.push x.s (cutB x.bs) else if k = 2 then X.pu.show x.s else if k = 3 then X.pu.owe x.s else if k = 4 then X.pu.carry x.s x.n else if k = 5 then X.pu.answer x.s x.n else X.pu) := fun k hk => by unfold Px.act; rw [hk]
  generalize hss : x.s = s at *
  clear hblk hXW hrW hI hT h hr hap hapW hbW hss
  by_cases k1 : x.kind = 1
  · have HP := HPa.out 1 k1
    have HPk : Hid (X.pu.act x = X.pu.push s (cutB x.bs)) := (show _ = _ from HP)
    clear HP
    rw [k1] at a1
    clear k1 HPa
    go_enter Try.func12, Try.ntmps12
    go_wp2_with (first | (go_at_call 30; refine Hab.out.mono ?_; rintro e w' ⟨rfl, rfl⟩) | (go_at_call 8; refine H1.out.mono ?_) | fail)
    rintro e w2 hx
    obtain ⟨he, hx2⟩ := hx
    subst he
    have HZ : Hid (XO w w2 X B (X.pu.act x) (.returned (.bool true))) := (show XO _ _ _ _ _ _ from by rw [HPk.out]; exact XO.pre Hh.out HbW.out ⟨rfl, hx2⟩)
    clear hx2
    go_wp2
    go_ret
    exact HZ.out
  by_cases k2 : x.kind = 2
  · have HP := HPa.out 2 k2
    have HPk : Hid (X.pu.act x = X.pu.show s) := (show _ = _ from HP)
    clear HP
    rw [k2] at a1
    clear k2 HPa
    clear k1
    go_enter Try.func12, Try.ntmps12
    go_wp2_with (first | (go_at_call 30; refine Hab.out.mono ?_; rintro e w' ⟨rfl, rfl⟩) | (go_at_call 9; refine H2.out.mono ?_) | fail)
    rintro e w2 hx
    obtain ⟨he, hx2⟩ := hx
    subst he
    have HZ : Hid (XO w w2 X B (X.pu.act x) (.returned (.bool true))) := (show XO _ _ _ _ _ _ from by rw [HPk.out]; exact XO.pre Hh.out HbW.out ⟨rfl, hx2⟩)
    clear hx2
    go_wp2
    go_ret
    exact HZ.out
  by_cases k3 : x.kind = 3
  · have HP := HPa.out 3 k3
    have HPk : Hid (X.pu.act x = X.pu.owe s) := (show _ = _ from HP)
    clear HP
    rw [k3] at a1
    clear k3 HPa
    clear k1 k2
    go_enter Try.func12, Try.ntmps12
    go_wp2_with (first | (go_at_call 30; refine Hab.out.mono ?_; rintro e w' ⟨rfl, rfl⟩) | (go_at_call 33; refine H3.out.mono ?_) | fail)
    rintro e w2 hx
    obtain ⟨he, hx2⟩ := hx
    subst he
    have HZ : Hid (XO w w2 X B (X.pu.act x) (.returned (.bool true))) := (show XO _ _ _ _ _ _ from by rw [HPk.out]; exact XO.pre Hh.out HbW.out ⟨rfl, hx2⟩)
    clear hx2
    go_wp2
    go_ret
    exact HZ.out
  by_cases k4 : x.kind = 4
  · have HP := HPa.out 4 k4
    have HPk : Hid (X.pu.act x = X.pu.carry s x.n) := (show _ = _ from HP)
    clear HP
    rw [k4] at a1
    clear k4 HPa
    clear k1 k2 k3
    go_enter Try.func12, Try.ntmps12
    go_wp2_with (first | (go_at_call 30; refine Hab.out.mono ?_; rintro e w' ⟨rfl, rfl⟩) | (go_at_call 10; refine H4.out.mono ?_) | fail)
    rintro e w2 hx
    obtain ⟨he, hx2⟩ := hx
    subst he
    have HZ : Hid (XO w w2 X B (X.pu.act x) (.returned (.bool true))) := (show XO _ _ _ _ _ _ from by rw [HPk.out]; exact XO.pre Hh.out HbW.out ⟨rfl, hx2⟩)
    clear hx2
    go_wp2
    go_ret
    exact HZ.out
  by_cases k5 : x.kind = 5
  · have HP := HPa.out 5 k5
    have HPk : Hid (X.pu.act x = X.pu.answer s x.n) := (show _ = _ from HP)
    clear HP
    rw [k5] at a1
    clear k5 HPa
    clear k1 k2 k3 k4
    go_enter Try.func12, Try.ntmps12
    go_wp2_with (first | (go_at_call 30; refine Hab.out.mono ?_; rintro e w' ⟨rfl, rfl⟩) | (go_at_call 34; refine H5.out.mono ?_) | fail)
    rintro e w2 hx
    obtain ⟨he, hx2⟩ := hx
    subst he
    have HZ : Hid (XO w w2 X B (X.pu.act x) (.returned (.bool true))) := (show XO _ _ _ _ _ _ from by rw [HPk.out]; exact XO.pre Hh.out HbW.out ⟨rfl, hx2⟩)
    clear hx2
    go_wp2
    go_ret
    exact HZ.out
  have HPk : Hid (X.pu.act x = X.pu) := (show _ = _ from by have := HPa.out x.kind rfl; rw [if_neg k1, if_neg k2, if_neg k3, if_neg k4, if_neg k5] at this; exact this)
  have z1 : (x.kind == 1) = false := by rw [beq_eq_false_iff_ne]; exact k1
  have z2 : (x.kind == 2) = false := by rw [beq_eq_false_iff_ne]; exact k2
  have z3 : (x.kind == 3) = false := by rw [beq_eq_false_iff_ne]; exact k3
  have z4 : (x.kind == 4) = false := by rw [beq_eq_false_iff_ne]; exact k4
  have z5 : (x.kind == 5) = false := by rw [beq_eq_false_iff_ne]; exact k5
  have HZ : Hid (XO w W X B (X.pu.act x) (.returned (.bool true))) := (show XO _ _ _ _ _ _ from by rw [HPk.out]; exact ⟨rfl, X, Xstep.below Hh.out HbW.out, rfl⟩)
  clear k1 k2 k3 k4 k5 HPa HPk
  go_enter Try.func12, Try.ntmps12
  go_wp2_with (first | (go_at_call 30; refine Hab.out.mono ?_; rintro e w' ⟨rfl, rfl⟩) | fail)
  go_ret
  exact HZ.out
end
end Go.Proofs.Ytghihdenbdnnjaa.Ln
