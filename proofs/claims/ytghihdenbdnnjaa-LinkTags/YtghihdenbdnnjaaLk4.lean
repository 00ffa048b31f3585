import Derived.Test.YtghihdenbdnnjaaLk3
import Derived.Test.YtghihdenbdnnjaaLk0
namespace Go.Proofs.Ytghihdenbdnnjaa.Ln
open Go.RowKit Mb
set_option linter.unusedVariables false
set_option maxRecDepth 100000
set_option linter.unusedSimpArgs false
def runA (P : Px) (xs : List Ac) : Px := xs.foldl Px.act P
section
variable {w w' W : World} {B : Nat} {X X' : Wr} {P : Px}
theorem run_win (P : Px) (xs : List Ac) : (runA P xs).win = P.win ∧ (runA P xs).space = P.space := by
  unfold runA
  induction xs generalizing P with
  | nil => exact ⟨rfl, rfl⟩
  | cons x xs ih => rw [List.foldl_cons]; exact ⟨(ih _).1.trans (act_win P x).1, (ih _).2.trans (act_win P x).2⟩
theorem run_inv (xs : List Ac) : ∀ (P : Px), P.Inv → (∀ x ∈ xs, By x.bs) → (runA P xs).Inv := by
  induction xs with
  | nil => intro P h _; exact h
  | cons x xs ih => intro P h hb; exact ih _ (h.act x (hb x (List.mem_cons_self ..))) (fun y hy => hb y (List.mem_cons_of_mem _ hy))
theorem run_sz (xs : List Ac) : ∀ (P : Px) (T : Nat), P.Sz T → P.win ≤ 5 → (runA P xs).Sz (T + xs.length) := by
  induction xs with
  | nil => intro P T h _; exact h
  | cons x xs ih =>
    intro P T h hw
    have := ih (P.act x) (T + 1) (h.act x hw) (by rw [(act_win P x).1]; exact hw)
    rw [List.length_cons, show T + (xs.length + 1) = T + 1 + xs.length from by omega]
    exact this
theorem run_take (P : Px) (xs : List Ac) {i : Nat} {x : Ac} (hx : xs[i]? = some x) : runA P (xs.take (i + 1)) = (runA P (xs.take i)).act x := by
  unfold runA
  rw [List.take_add_one, hx, List.foldl_append]
  rfl
theorem rd_lt {ao : Option Addr} {n c : Nat} {bs : List Int} (h : Rd w ao n c bs) (hn : 0 < n) : In ao fun b => b < w.heap.size := fun b off e => by
  rcases h.at_ with h0 | ⟨b', off', e', hc⟩
  · omega
  · rw [e] at e'
    cases e'
    exact World.block_lt_of_cell? w _ (hc 0 hn)
theorem ActIn.by_ {b o : Nat} {x : Ac} (h : ActIn w b o x) : By x.bs := by
  obtain ⟨_, _, _, _, hr⟩ := h.out
  exact hr.by_
theorem RdA.bys {a : Option Addr} {n : Nat} {xs : List Ac} (h : RdA w a n xs) : ∀ x ∈ xs, By x.bs := fun x hx => by
  rcases h.2 with h0 | ⟨b, off, _, hc⟩
  · rw [List.eq_nil_of_length_eq_zero (h.1.trans h0)] at hx; cases hx
  · obtain ⟨i, hi⟩ := List.mem_iff_getElem?.1 hx
    exact (hc i x hi).by_
structure TlS (w wr : World) (b0 : Nat) (P : Px) (X : Wr) : Prop where
  ok : X.Ok wr w.heap.size
  pu : X.pu = P
  bel : Below w.heap.size w wr
  b : X.b = b0
structure TlO (w w' : World) (P : Px) (e : Ending) : Prop where
  out : ∃ X : Wr, e = .returned (.pointer (some ⟨X.b, 0, none⟩)) ∧ X.Ok w' w.heap.size ∧ X.pu = P ∧ Below w.heap.size w w'
theorem TlS.step {wr w2 : World} {b0 : Nat} {P P' : Px} (h : TlS w wr b0 P X) (s : Xstep wr w2 X X' w.heap.size) (hp : X'.pu = P') : TlS w w2 b0 P' X' :=
  ⟨s.ok, hp, h.bel.trans (s.kept.below h.bel.size (fun j hj e => by have := h.ok.loj e; omega)), s.b.trans h.b⟩
set_option maxHeartbeats 4000000 in
theorem talked_any {wi rm : Int} (hw : i64 wi) (hr : i64 rm) {a : Option Addr} {n c : Nat} {xs : List Ac} (hA : RdA w a n xs) (hn : n ≤ 140737488351232) : Calls Try.prog 7 #[.int .i64 wi, .int .i64 rm, .slice a n c] w fun e w' => TlO w w' (runA (px0 (1 + (absI wi).toNat % 5) (1 + (absI wi).toNat % 5 + (absI rm).toNat % 9)) (xs.take 400)) e := by
  obtain ⟨win, hwin⟩ : ∃ k, 1 + (absI wi).toNat % 5 = k := ⟨_, rfl⟩
  obtain ⟨space, hsp⟩ : ∃ k, win + (absI rm).toNat % 9 = k := ⟨_, rfl⟩
  have hw5 : win ≤ 5 := by have := Nat.mod_lt (absI wi).toNat (show 0 < 5 by omega); omega
  have HSt : Hid (Calls Try.prog 11 #[.int .i64 wi, .int .i64 rm] w fun e w' => StO w w' win space e) := (show Calls _ _ _ _ _ from by have := started_any (w := w) hw.1 hw.2 hr.1 hr.2; rw [hwin, hsp] at this; exact this)
  rw [hwin, hsp]
  have HA : Hid (RdA w a n xs) := hA
  have HI : Hid (∀ i, (runA (px0 win space) (xs.take i)).Inv) := fun i => run_inv _ _ (px0_inv _ _) (fun x hx => hA.bys x (List.mem_of_mem_take hx))
  have HT : Hid (∀ i, i ≤ 400 → (runA (px0 win space) (xs.take i)).Sz 400) := fun i hi => (show Px.Sz _ _ from by
    have h1 := run_sz (xs.take i) (px0 win space) 0 (px0_sz _ _) hw5
    intro s hs
    have h2 := h1 s hs
    have h3 : (xs.take i).length ≤ 400 := by rw [List.length_take]; omega
    omega)
  clear hA hwin hsp
  go_enter Try.func7, Try.ntmps7
  go_wp2_with (first | (go_at_call 11; refine HSt.out.mono ?_) | fail)
  rintro e w1 hx
  obtain ⟨X0, he, hok, hpu, hbel⟩ := hx.out
  subst he
  obtain ⟨b0, hb0⟩ : ∃ b0, X0.b = b0 := ⟨_, rfl⟩
  have H0 : Hid (∃ X, TlS w w1 b0 (runA (px0 win space) (xs.take 0)) X) := (show ∃ X, TlS _ _ _ _ X from ⟨X0, hok, hpu, hbel, hb0⟩)
  rw [hb0]
  clear hx hok hpu hbel hb0 HSt
  go_wp2
  go_loopw [8, 9] (fun v8 _ wr => ∃ i : Nat, i ≤ n ∧ i ≤ 400 ∧ v8 = .int .i64 (i : Int) ∧ Hid (∃ X, TlS w wr b0 (runA (px0 win space) (xs.take i)) X)) (fun v8 _ _ => 400 - (intOf v8).toNat)
  case atStart => exact ⟨0, by omega, by omega, rfl, H0⟩
  case round =>
    clear H0
    obtain ⟨i, hi1, hi2, rfl, hs⟩ := hrel
    obtain ⟨X, hX⟩ := hs.out
    clear hs
    by_cases hlt : i < n
    · by_cases h4 : i < 400
      · have i1 : (0 : Int) ≤ (i : Int) := Int.natCast_nonneg _
        have i2 : (i : Int) < (n : Int) := by omega
        have i3 : (i : Int) < 400 := by omega
        have hbo : ∃ b off, a = some ⟨b, off, none⟩ ∧ ∀ i x, xs[i]? = some x → ActIn w b (off + i * 4) x := by
          rcases HA.out.2 with h0 | h0
          · omega
          · exact h0
        obtain ⟨b, off, rfl, hact⟩ := hbo
        obtain ⟨x, hx⟩ : ∃ x, xs[i]? = some x := by
          have : i < xs.length := by rw [HA.out.1]; exact hlt
          exact ⟨_, List.getElem?_eq_getElem this⟩
        have hai := hact i x hx
        obtain ⟨aa, m, cc, hcell, hrd⟩ := hai.out
        have hrdr := hrd.still hX.bel
        have HRg : Hid (wr.rangeAt b (off + i * 4) [.int .i64 x.side, .int .i64 x.kind, .int .i64 x.n, .slice aa m cc]) := fun j v hv => (show _ = _ from by
          have hj : j < 4 := by
            by_cases hj : j < 4
            · exact hj
            · rw [List.getElem?_eq_none (by simp; omega)] at hv; cases hv
          exact below_at hX.bel ((hcell j hj).trans hv))
        have HAc : Hid (Calls Try.prog 12 #[.pointer (some ⟨b0, 0, none⟩), .agg #[.int .i64 x.side, .int .i64 x.kind, .int .i64 x.n, .slice aa m cc]] wr fun e w' => XO wr w' X w.heap.size (X.pu.act x) e) := (show Calls _ _ _ _ _ from by
          have := wact_any hX.ok (by rw [hX.pu]; exact HI.out i) (T := 400) (by rw [hX.pu]; exact HT.out i hi2) (by omega) hX.bel.size x hai.side.1 hai.side.2 hai.n.1 hai.n.2 hrdr (fun hm b' off' e ho => by
            have h1 := rd_lt hrd hm b' off' e
            have h2 := hX.ok.loj ho
            exact absurd h1 (by omega))
          rw [hX.b] at this
          exact this)
        have HX : Hid (TlS w wr b0 (runA (px0 win space) (xs.take i)) X) := hX
        have Hx : Hid (xs[i]? = some x) := hx
        clear hact hai hcell hrd hrdr hX hx
        go_wp2_with (first | (refine load_mid 47 (.tmp 28) HRg.out _ Try.underlying47 rfl (by kernel_rfl) rfl rfl rfl ?_) | (go_at_call 12; refine HAc.out.mono ?_) | fail)
        rintro e w2 hx2
        obtain ⟨he, X', hxs, hpu⟩ := hx2
        subst he
        have hN : TlS w w2 b0 (runA (px0 win space) (xs.take (i + 1))) X' := HX.out.step hxs (by rw [hpu, HX.out.pu]; exact (run_take _ _ Hx.out).symm)
        have HSo : Hid (Calls Try.prog 26 #[.pointer (some ⟨b0, 0, none⟩)] w2 fun e w' => e = .returned (.bool true) ∧ Below w2.heap.size w2 w') := (show Calls _ _ _ _ _ from by
          have := wsound_any hN.ok (by rw [hN.pu]; exact HI.out (i + 1)) (T := 400) (by rw [hN.pu]; exact HT.out (i + 1) (by omega)) (by omega)
          rw [hN.b] at this
          exact this)
        have HN : Hid (TlS w w2 b0 (runA (px0 win space) (xs.take (i + 1))) X') := hN
        clear hN hxs hpu HAc HRg HX
        go_wp2_with (first | (go_at_call 26; refine HSo.out.mono ?_) | fail)
        rintro e w3 ⟨rfl, hb3⟩
        have HF : Hid (∃ X, TlS w w3 b0 (runA (px0 win space) (xs.take (i + 1))) X) := (show ∃ X, TlS _ _ _ _ X from ⟨X', HN.out.step (Xstep.below HN.out.ok hb3) HN.out.pu⟩)
        clear hb3 HN HSo
        go_wp2
        exact ⟨⟨i + 1, by omega, by omega, by go_num, HF⟩, by simp [intOf]; omega⟩
      · have i2 : (i : Int) < (n : Int) := by omega
        obtain rfl : i = 400 := by omega
        have HZ : Hid (TlO w wr (runA (px0 win space) (xs.take 400)) (.returned (.pointer (some ⟨b0, 0, none⟩)))) := (show TlO _ _ _ _ from ⟨X, by rw [hX.b], hX.ok, hX.pu, hX.bel⟩)
        clear hX
        go_wp2
        go_ret
        exact HZ.out
    · have i2 : ¬ (i : Int) < (n : Int) := by omega
      have HZ : Hid (TlO w wr (runA (px0 win space) (xs.take 400)) (.returned (.pointer (some ⟨b0, 0, none⟩)))) := (show TlO _ _ _ _ from ⟨X, by rw [hX.b], hX.ok, (by
        rw [hX.pu]
        have e1 : xs.length = n := HA.out.1
        rw [List.take_of_length_le (show xs.length ≤ i by omega), List.take_of_length_le (show xs.length ≤ 400 by omega)]), hX.bel⟩)
      clear hX
      go_wp2
      go_ret
      exact HZ.out
end
end Go.Proofs.Ytghihdenbdnnjaa.Ln
