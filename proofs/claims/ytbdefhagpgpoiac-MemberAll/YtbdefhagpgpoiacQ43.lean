import Derived.Test.YtbdefhagpgpoiacQ00
import Derived.Test.YtbdefhagpgpoiacQ42
import Derived.Test.YtbdefhagpgpoiacQ35
namespace Go.Proofs.Ytbdefhagpgpoiac.Mb
open Go.RowKit
set_option linter.unusedVariables false
set_option maxRecDepth 100000
set_option linter.unusedSimpArgs false
section
variable {A A' : Ag} {w w' W : World} {B : Nat} {T : Int} {R R' : Rg}
def nb (a : Option Addr) (g : Nat) : Prop := ∀ ad, a = some ad → ad.block ≠ g
structure Rg.Ap (R : Rg) (g : Nat) : Prop where
  s : nb R.own.sa g
  v : nb R.own.va g
  l : ∀ h ∈ R.all, nb h.p.sa g ∧ nb h.p.va g
structure Rg.Nb (R' R : Rg) (H : Nat) : Prop where
  out : ∀ g, g < H → R.Ap g → R'.Ap g
theorem RowI.nb {a : Option Addr} {n c g : Nat} {xs : List Int} (h : RowI w B a n c xs) (hg : g < B) : nb a g := by
  intro ad e
  rcases h.2 with ⟨e1, e2⟩ | ⟨g0, cap0, cur, e0, hb, _⟩
  · rw [e] at e1; cases e1
  · rw [e] at e0
    injection e0 with e3
    injection e3 with e4
    subst e4
    show g0 ≠ g
    omega
theorem Rg.Nb.rfl (R : Rg) (H : Nat) : R.Nb R H := ⟨fun g _ h => h⟩
theorem Rg.Nb.own {P : Pq} {b : Bool} {H : Nat} (h1 : ∀ g, g < H → nb P.sa g) (h2 : ∀ g, g < H → nb P.va g) : ({ R with own := P, op := b } : Rg).Nb R H := ⟨fun g hg h => ⟨h1 g hg, h2 g hg, h.l⟩⟩
theorem Rg.Nb.trans {R1 R2 : Rg} {H : Nat} (h : R1.Nb R2 H) (k : R2.Nb R H) : R1.Nb R H := ⟨fun g hg a => h.out g hg (k.out g hg a)⟩
theorem Rg.Nb.mono {H H' : Nat} (h : R'.Nb R H) (hh : H' ≤ H) : R'.Nb R H' := ⟨fun g hg a => h.out g (by omega) a⟩
theorem Rg.Nb.add {ha : Option Addr} {hc : Nat} {x : Hx} {H : Nat} (h1 : ∀ g, g < H → nb x.p.sa g) (h2 : ∀ g, g < H → nb x.p.va g) : (R.add ha hc x).Nb R H := ⟨fun g hg h => ⟨h.s, h.v, fun y hy => by
  rcases List.mem_append.1 hy with hy | hy
  · exact h.l y hy
  · obtain rfl : y = x := by simpa using hy
    exact ⟨h1 g hg, h2 g hg⟩⟩⟩
set_option maxHeartbeats 4000000 in
theorem rest_any2 (h : R.Ok w B) (hd : R.Bd) (hL : R.all.length ≤ 1000000000000) {ao : Option Addr} {sn c : Nat} {xs : List Int} (hr : RdI w ao sn xs) (hn : sn ≤ 17592186044416) : Calls Try.prog 13 #[.pointer (some ⟨R.b, 0, none⟩), .slice ao sn c] w fun e w' => ∃ (x : Bool) (E : Int) (R' : Rg), e = .returned (.tuple #[.bool x, .int .i64 E]) ∧ R'.Ok w' B ∧ Kept w w' (fun j => j = R.b) ∧ REst R xs x E R' ∧ R'.Nb R w.heap.size := by
  have h16 := h.n16
  have d0 := h.cn
  have d1 := h.cself
  have d2 : w.cell? ⟨R.b, 2, none⟩ = some (.int .i64 R.inc) := h.c 2
  have HC := qcounts_any (c := c) hr hn R.n (by omega)
  have Hh : Hid (R.Ok w B) := h
  have Hr : Hid (RdI w ao sn xs) := hr
  clear h hr
  cases hok : okL xs R.n with
  | false =>
    rw [hok] at HC
    have Hok : Hid (okL xs R.n = false) := hok
    clear hok
    go_enter Try.func13, Try.ntmps13
    go_wp2_with (fail)
    refine HC.mono ?_
    rintro e w1 ⟨rfl, rfl⟩
    go_wp2
    refine wp_region_held_drew (S := (fun w' => True)) (by kernel_rfl) trivial (fun hHeld => ?_)
    simp only [Act.put, List.size_toArray, List.length_cons, List.length_nil, Nat.zero_add]
    refine tkI 0 (.bool false) rfl hHeld ?_
    simp only [Act.put, gA, gB, gC, gD, gE, gF]
    refine tkI 1 (.bool true) rfl hHeld ?_
    simp only [Act.put, gA, gB, gC, gD, gE, gF]
    refine tkI 2 (.bool true) rfl hHeld ?_
    simp only [Act.put, gA, gB, gC, gD, gE, gF]
    refine tkO 3 rfl hHeld ?_
    simp only [Act.put, gA, gB, gC, gD, gE, gF]
    refine tkO 4 rfl hHeld ?_
    simp only [Act.put, gA, gB, gC, gD, gE, gF]
    refine tkO 5 rfl hHeld ?_
    simp only [Act.put, gA, gB, gC, gD, gE, gF]
    refine tkO 6 rfl hHeld ?_
    simp only [Act.put, gA, gB, gC, gD, gE, gF]
    refine tkO 7 rfl hHeld ?_
    simp only [Act.put, gA, gB, gC, gD, gE, gF]
    refine tkO 8 rfl hHeld ?_
    simp only [Act.put, gA, gB, gC, gD, gE, gF]
    refine tkO 9 rfl hHeld ?_
    simp only [Act.put, gA, gB, gC, gD, gE, gF]
    refine tkO 10 rfl hHeld ?_
    simp only [Act.put, gA, gB, gC, gD, gE, gF]
    refine tkO 11 rfl hHeld ?_
    simp only [Act.put, gA, gB, gC, gD, gE, gF]
    refine tkO 12 rfl hHeld ?_
    simp only [Act.put, gA, gB, gC, gD, gE, gF]
    refine tkO 13 rfl hHeld ?_
    simp only [Act.put, gA, gB, gC, gD, gE, gF]
    refine tkO 14 rfl hHeld ?_
    simp only [Act.put, gA, gB, gC, gD, gE, gF]
    refine tkI 15 (.bool true) rfl hHeld ?_
    simp only [Act.put, gA, gB, gC, gD, gE, gF]
    refine wpAnyH_done (by kernel_rfl) ?_ _
    clear hHeld
    go_wp2
    (try simp only [Exit.inBlock, Exit.then]); refine bodyPost_ret (results_tmp2 rfl _ _ _) rfl ?_
    exact ⟨false, 60, R, rfl, Hh.out.still (Below.refl _ _).drew, Kept.ofBelow (Below.refl _ _).drew _, .set (.inl Hok.out), Rg.Nb.rfl _ _⟩
  | true =>
    rw [hok] at HC
    have hxl : xs.length = R.n := by unfold okL at hok; exact of_decide_eq_true (Bool.and_eq_true_iff.1 hok).1
    have Hok : Hid (okL xs R.n = true) := hok
    obtain rfl : sn = R.n := by have := Hr.out.1; omega
    obtain ⟨sb, so, hao, ex⟩ := Hr.out.at (i := R.self) h16.2.2
    subst hao
    obtain ⟨x, hx⟩ : ∃ x, xs.getD R.self 0 = x := ⟨_, rfl⟩
    rw [hx] at ex
    have Hx : Hid (xs.getD R.self 0 = x) := hx
    have ss1 : (0 : Int) ≤ (R.self : Int) := Int.natCast_nonneg _
    have ss2 : (R.self : Int) < (R.n : Int) := by omega
    clear hok hx
    by_cases hi : x = R.inc
    · have Hi : Hid (xs.getD R.self 0 = R.inc) := Hx.out.trans hi
      have HEq : Hid (Calls Try.prog 35 #[.slice (some ⟨sb, so, none⟩) R.n c, .slice R.own.sa R.own.sn R.own.sc] w.drew fun e w' => e = .returned (.bool (decide (xs = R.own.ss))) ∧ Below w.drew.heap.size w.drew w') := qequal_any (Hr.out.still (Below.refl _ _).drew) ((Hh.out.still (Below.refl _ _).drew).os.rd) (by omega)
      have x9 : w.drew.cell? ⟨R.b, 9, none⟩ = some (.slice R.own.sa R.own.sn R.own.sc) := (Hh.out.still (Below.refl _ _).drew).c 9
      subst hi
      go_enter Try.func13, Try.ntmps13
      go_wp2_with (fail)
      refine HC.mono ?_
      rintro e w1 ⟨rfl, rfl⟩
      go_wp2
      refine wp_region_held_drew (S := (fun w' => w'.cell? ⟨R.b, 1, none⟩ = some (.int .i64 (R.self : Int)) ∧ w'.cell? ⟨R.b, 2, none⟩ = some (.int .i64 R.inc) ∧ w'.cell? ⟨sb, so + R.self, none⟩ = some (.int .i64 R.inc))) (by kernel_rfl) ⟨below_at (Below.refl _ _).drew d1, below_at (Below.refl _ _).drew d2, below_at (Below.refl _ _).drew ex⟩ (fun hHeld => ?_)
      simp only [Act.put, List.size_toArray, List.length_cons, List.length_nil, Nat.zero_add]
      refine tkI 0 (.bool true) rfl hHeld ?_
      simp only [Act.put, gA, gB, gC, gD, gE, gF]
      refine tkI 1 (.bool false) rfl hHeld ?_
      simp only [Act.put, gA, gB, gC, gD, gE, gF]
      refine tkI 2 (.bool false) rfl hHeld ?_
      simp only [Act.put, gA, gB, gC, gD, gE, gF]
      refine tkI 3 (.slice (some ⟨sb, so, none⟩) R.n c) rfl hHeld ?_
      simp only [Act.put, gA, gB, gC, gD, gE, gF]
      refine tkI 4 (.pointer (some ⟨R.b, 0, none⟩)) rfl hHeld ?_
      simp only [Act.put, gA, gB, gC, gD, gE, gF]
      refine tkI 5 (.pointer (some ⟨R.b, 0, none⟩)) rfl hHeld ?_
      simp only [Act.put, gA, gB, gC, gD, gE, gF]
      refine tkI 6 (.pointer (some ⟨R.b, 1, none⟩)) rfl hHeld ?_
      simp only [Act.put, gA, gB, gC, gD, gE, gF]
      refine tkL 7 (.int .i64 (R.self : Int)) rfl (fun w' hS => by (obtain ⟨s0, s1, s2⟩ := hS; go_simp)) hHeld ?_
      simp only [Act.put, gA, gB, gC, gD, gE, gF]
      refine tkL 8 (.pointer (some ⟨sb, so + R.self, none⟩)) rfl (fun w' hS => by (go_simp <;> first | omega | simp_all | (simp; omega))) hHeld ?_
      simp only [Act.put, gA, gB, gC, gD, gE, gF]
      refine tkL 9 (.int .i64 R.inc) rfl (fun w' hS => by (obtain ⟨s0, s1, s2⟩ := hS; go_simp)) hHeld ?_
      simp only [Act.put, gA, gB, gC, gD, gE, gF]
      refine tkI 10 (.pointer (some ⟨R.b, 0, none⟩)) rfl hHeld ?_
      simp only [Act.put, gA, gB, gC, gD, gE, gF]
      refine tkI 11 (.pointer (some ⟨R.b, 0, none⟩)) rfl hHeld ?_
      simp only [Act.put, gA, gB, gC, gD, gE, gF]
      refine tkI 12 (.pointer (some ⟨R.b, 2, none⟩)) rfl hHeld ?_
      simp only [Act.put, gA, gB, gC, gD, gE, gF]
      refine tkL 13 (.int .i64 R.inc) rfl (fun w' hS => by (obtain ⟨s0, s1, s2⟩ := hS; go_simp)) hHeld ?_
      simp only [Act.put, gA, gB, gC, gD, gE, gF]
      refine tkL 14 (.bool false) rfl (fun w' hS => by (go_simp <;> first | omega | simp_all | (simp; omega))) hHeld ?_
      simp only [Act.put, gA, gB, gC, gD, gE, gF]
      refine tkI 15 (.bool false) rfl hHeld ?_
      simp only [Act.put, gA, gB, gC, gD, gE, gF]
      refine wpAnyH_done (by kernel_rfl) ?_ _
      clear hHeld
      have HwB : Hid (Below w.heap.size w w.drew) := (Below.refl _ _).drew
      have Hhd : Hid (R.Ok w.drew B) := Hh.out.still (Below.refl _ _).drew
      have Hrd : Hid (RdI w.drew (some ⟨sb, so, none⟩) R.n xs) := Hr.out.still (Below.refl _ _).drew
      clear d0 d1 d2 ex HC
      generalize w.drew = d at *
      go_wp2_with (fail)
      refine HEq.out.mono ?_
      rintro e w2 ⟨rfl, hb2⟩
      have HB2 : Hid (Below w.heap.size w w2) := bstep HwB.out hb2
      have Hh2 : Hid (R.Ok w2 B) := Hhd.out.still hb2
      have Hr2 : Hid (RdI w2 (some ⟨sb, so, none⟩) R.n xs) := Hrd.out.still hb2
      clear hb2 HEq x9
      by_cases hsame : xs = R.own.ss
      · rw [decide_eq_true hsame]
        have Hs : Hid (xs = R.own.ss) := hsame
        clear hsame
        go_wp2
        (try simp only [Exit.inBlock, Exit.then]); refine bodyPost_ret (results_tmp2 rfl _ _ _) rfl ?_
        exact ⟨false, 0, R, rfl, Hh2.out, Kept.ofBelow HB2.out _, .same Hok.out Hi.out Hs.out, Rg.Nb.rfl _ _⟩
      · rw [decide_eq_false hsame]
        have Hs : Hid (xs ≠ R.own.ss) := hsame
        clear hsame
        by_cases hsp : R.spent
        · have HBn := rbegin_no (ao := some ⟨sb, so, none⟩) (c := c) Hh2.out hsp
          have Hsp : Hid (R.spent) := hsp
          clear hsp
          go_wp2_with (fail)
          refine HBn.mono ?_
          rintro e w3 ⟨rfl, hb3⟩
          have HB3 : Hid (Below w.heap.size w w3) := bstep HB2.out hb3
          have Hh3 : Hid (R.Ok w3 B) := Hh2.out.still hb3
          clear hb3 HBn
          generalize hX : w3.alloc (.cells [.slice R.own.sa R.own.sn R.own.sc, .int .i64 R.own.cid, .int .i64 R.own.rev, .int .i64 R.own.top, .int .i64 (R.own.prev[0]?.getD 0), .int .i64 (R.own.prev[1]?.getD 0), .int .i64 (R.own.prev[2]?.getD 0), .int .i64 (R.own.prev[3]?.getD 0), .slice R.own.va R.own.vn R.own.vc].toArray 40) = X
          have bX : Below w3.heap.size w3 X := by rw [← hX]; exact balloc (Below.refl _ _)
          have HX : Hid (R.Ok X B ∧ Below w.heap.size w X) := ⟨Hh3.out.still bX, bstep HB3.out bX⟩
          simp only [List.toArray] at hX
          clear bX
          go_wp2
          (try simp only [Exit.inBlock, Exit.then]); refine bodyPost_ret (results_tmp2 rfl _ _ _) rfl ?_
          exact ⟨false, 3, R, rfl, HX.out.1, Kept.ofBelow HX.out.2 _, .spent Hok.out Hi.out Hs.out Hsp.out, Rg.Nb.rfl _ _⟩
        · have hne : R.own.cid ≠ 4611686018427387904 ∧ R.own.rev ≠ 4611686018427387904 ∧ R.id.getD 0 0 ≠ 4611686018427387904 := ⟨fun e => hsp (.inl e), fun e => hsp (.inr (.inl e)), fun e => hsp (.inr (.inr e))⟩
          have HBy := rbegin_any (c := c) Hh2.out hL Hr2.out ⟨hd.cid.1, by have := hd.cid.2; omega⟩ ⟨hd.rev.1, by have := hd.rev.2; omega⟩ ⟨hd.ep.1, by have := hd.ep.2; omega⟩
          have Hsp : Hid (¬ R.spent) := hsp
          clear hsp hne
          go_wp2_with (fail)
          refine HBy.mono ?_
          rintro e w3 ⟨P, rfl, hN, o1, o2, hb3⟩
          generalize hX : w3.alloc (.cells [.slice P.sa P.sn P.sc, .int .i64 P.cid, .int .i64 P.rev, .int .i64 P.top, .int .i64 (P.prev[0]?.getD 0), .int .i64 (P.prev[1]?.getD 0), .int .i64 (P.prev[2]?.getD 0), .int .i64 (P.prev[3]?.getD 0), .slice P.va P.vn P.vc].toArray 40) = X
          have bX : Below w3.heap.size w3 X := by rw [← hX]; exact balloc (Below.refl _ _)
          have kX : X.heap[w3.heap.size]? = some (.cells [.slice P.sa P.sn P.sc, .int .i64 P.cid, .int .i64 P.rev, .int .i64 P.top, .int .i64 (P.prev[0]?.getD 0), .int .i64 (P.prev[1]?.getD 0), .int .i64 (P.prev[2]?.getD 0), .int .i64 (P.prev[3]?.getD 0), .slice P.va P.vn P.vc].toArray 40 (0, 0)) := by rw [← hX]; exact heap_alloc_new w3 _
          have b2X := bstep hb3 bX
          have hRX := Hh2.out.still b2X
          have hset := Hh2.out.set_own (k := 0) P b2X hN hxl (o1.still bX) (o2.still bX)
          have m1 : (X.setCells R.b 9 [.slice P.sa P.sn P.sc, .int .i64 P.cid, .int .i64 P.rev, .int .i64 P.top, .int .i64 (P.prev[0]?.getD 0), .int .i64 (P.prev[1]?.getD 0), .int .i64 (P.prev[2]?.getD 0), .int .i64 (P.prev[3]?.getD 0), .slice P.va P.vn P.vc]).heap[R.b]? = some (.cells ({ R with own := P } : Rg).cs.toArray 57 (0, 0)) := sets_list [.slice P.sa P.sn P.sc, .int .i64 P.cid, .int .i64 P.rev, .int .i64 P.top, .int .i64 (P.prev[0]?.getD 0), .int .i64 (P.prev[1]?.getD 0), .int .i64 (P.prev[2]?.getD 0), .int .i64 (P.prev[3]?.getD 0), .slice P.va P.vn P.vc] 9 X R.cs hRX.blk (by simp [Rg.cs])
          generalize hM1 : X.setCells R.b 9 [.slice P.sa P.sn P.sc, .int .i64 P.cid, .int .i64 P.rev, .int .i64 P.top, .int .i64 (P.prev[0]?.getD 0), .int .i64 (P.prev[1]?.getD 0), .int .i64 (P.prev[2]?.getD 0), .int .i64 (P.prev[3]?.getD 0), .slice P.va P.vn P.vc] = M1 at hset m1
          generalize hM2 : M1.setCell ⟨R.b, 8, none⟩ (.bool true) = M2 at hset
          have x8 : M1.cell? ⟨R.b, 8, none⟩ = some (.bool R.op) := blk_cell m1 8
          have g8 : M1.frozen? ⟨R.b, 8, none⟩ = false := frozen_of_row M1 _ _ _ _ m1
          have R8 : Hid (X.rangeAt w3.heap.size 0 [.slice P.sa P.sn P.sc, .int .i64 P.cid, .int .i64 P.rev, .int .i64 P.top, .int .i64 (P.prev[0]?.getD 0), .int .i64 (P.prev[1]?.getD 0), .int .i64 (P.prev[2]?.getD 0), .int .i64 (P.prev[3]?.getD 0), .slice P.va P.vn P.vc]) := blk_range kX
          have T9 : Hid (X.there R.b 9 9) := blk_there' hRX.blk (by simp [Rg.cs])
          have HSet : Hid (({ R with own := P, op := true } : Rg).Ok M2 B ∧ Kept X M2 (fun j => j = R.b)) := hset
          have HN : Hid (Nw R xs P) := hN
          have HNb : Hid (({ R with own := P, op := true } : Rg).Nb R w.heap.size) := Rg.Nb.own (fun g hg => o1.nb (Nat.lt_of_lt_of_le hg HB2.out.size)) (fun g hg => o2.nb (Nat.lt_of_lt_of_le hg HB2.out.size))
          have HBX : Hid (Below w.heap.size w X) := bstep HB2.out b2X
          simp only [List.toArray] at hX
          clear HBy hN o1 o2 hb3 bX kX b2X hRX hset m1
          go_wp2_with (first
            | (refine load_mid 40 (.tmp 8) R8.out _ Try.underlying40 rfl (by kernel_rfl) rfl rfl rfl ?_)
            | (refine store_midL 40 (.tmp 51) (.tmp 49) (L := [.slice P.sa P.sn P.sc, .int .i64 P.cid, .int .i64 P.rev, .int .i64 P.top, .int .i64 (P.prev[0]?.getD 0), .int .i64 (P.prev[1]?.getD 0), .int .i64 (P.prev[2]?.getD 0), .int .i64 (P.prev[3]?.getD 0), .slice P.va P.vn P.vc]) T9.out info_propose (by simp [Value.oneCell']) rfl rfl rfl rfl ?_; rw [hM1])
            | fail)
          (try simp only [Exit.inBlock, Exit.then]); refine bodyPost_ret (results_tmp2 rfl _ _ _) rfl ?_
          exact ⟨true, 0, _, rfl, HSet.out.1, (Kept.ofBelow HBX.out _).trans HSet.out.2, .ok P Hok.out Hi.out Hs.out Hsp.out HN.out, HNb.out⟩
    · have HV : Hid (xs.getD R.self 0 ≠ R.inc) := by show _ ≠ _; rw [Hx.out]; exact hi
      go_enter Try.func13, Try.ntmps13
      go_wp2_with (fail)
      refine HC.mono ?_
      rintro e w1 ⟨rfl, rfl⟩
      go_wp2
      refine wp_region_held_drew (S := (fun w' => w'.cell? ⟨R.b, 1, none⟩ = some (.int .i64 (R.self : Int)) ∧ w'.cell? ⟨R.b, 2, none⟩ = some (.int .i64 R.inc) ∧ w'.cell? ⟨sb, so + R.self, none⟩ = some (.int .i64 x))) (by kernel_rfl) ⟨below_at (Below.refl _ _).drew d1, below_at (Below.refl _ _).drew d2, below_at (Below.refl _ _).drew ex⟩ (fun hHeld => ?_)
      simp only [Act.put, List.size_toArray, List.length_cons, List.length_nil, Nat.zero_add]
      refine tkI 0 (.bool true) rfl hHeld ?_
      simp only [Act.put, gA, gB, gC, gD, gE, gF]
      refine tkI 1 (.bool false) rfl hHeld ?_
      simp only [Act.put, gA, gB, gC, gD, gE, gF]
      refine tkI 2 (.bool false) rfl hHeld ?_
      simp only [Act.put, gA, gB, gC, gD, gE, gF]
      refine tkI 3 (.slice (some ⟨sb, so, none⟩) R.n c) rfl hHeld ?_
      simp only [Act.put, gA, gB, gC, gD, gE, gF]
      refine tkI 4 (.pointer (some ⟨R.b, 0, none⟩)) rfl hHeld ?_
      simp only [Act.put, gA, gB, gC, gD, gE, gF]
      refine tkI 5 (.pointer (some ⟨R.b, 0, none⟩)) rfl hHeld ?_
      simp only [Act.put, gA, gB, gC, gD, gE, gF]
      refine tkI 6 (.pointer (some ⟨R.b, 1, none⟩)) rfl hHeld ?_
      simp only [Act.put, gA, gB, gC, gD, gE, gF]
      refine tkL 7 (.int .i64 (R.self : Int)) rfl (fun w' hS => by (obtain ⟨s0, s1, s2⟩ := hS; go_simp)) hHeld ?_
      simp only [Act.put, gA, gB, gC, gD, gE, gF]
      refine tkL 8 (.pointer (some ⟨sb, so + R.self, none⟩)) rfl (fun w' hS => by (go_simp <;> first | omega | simp_all | (simp; omega))) hHeld ?_
      simp only [Act.put, gA, gB, gC, gD, gE, gF]
      refine tkL 9 (.int .i64 x) rfl (fun w' hS => by (obtain ⟨s0, s1, s2⟩ := hS; go_simp)) hHeld ?_
      simp only [Act.put, gA, gB, gC, gD, gE, gF]
      refine tkI 10 (.pointer (some ⟨R.b, 0, none⟩)) rfl hHeld ?_
      simp only [Act.put, gA, gB, gC, gD, gE, gF]
      refine tkI 11 (.pointer (some ⟨R.b, 0, none⟩)) rfl hHeld ?_
      simp only [Act.put, gA, gB, gC, gD, gE, gF]
      refine tkI 12 (.pointer (some ⟨R.b, 2, none⟩)) rfl hHeld ?_
      simp only [Act.put, gA, gB, gC, gD, gE, gF]
      refine tkL 13 (.int .i64 R.inc) rfl (fun w' hS => by (obtain ⟨s0, s1, s2⟩ := hS; go_simp)) hHeld ?_
      simp only [Act.put, gA, gB, gC, gD, gE, gF]
      refine tkL 14 (.bool true) rfl (fun w' hS => by (go_simp <;> first | omega | simp_all | (simp; omega))) hHeld ?_
      simp only [Act.put, gA, gB, gC, gD, gE, gF]
      refine tkI 15 (.bool true) rfl hHeld ?_
      simp only [Act.put, gA, gB, gC, gD, gE, gF]
      refine wpAnyH_done (by kernel_rfl) ?_ _
      clear hHeld
      go_wp2
      (try simp only [Exit.inBlock, Exit.then]); refine bodyPost_ret (results_tmp2 rfl _ _ _) rfl ?_
      exact ⟨false, 60, R, rfl, Hh.out.still (Below.refl _ _).drew, Kept.ofBelow (Below.refl _ _).drew _, .set (.inr HV.out), Rg.Nb.rfl _ _⟩
end
end Go.Proofs.Ytbdefhagpgpoiac.Mb
