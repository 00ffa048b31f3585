import Derived.Test.YtcodpjblmeckkaaVo
namespace Go.Proofs.Ytcodpjblmeckkaa.Dt
open Go.RowKit
set_option linter.unusedVariables false
set_option maxRecDepth 100000
set_option linter.unusedSimpArgs false
section
variable {D D' : De} {w w' W V : World} {B m : Nat}
def stP (i t wr T j : Int) : Pe := ⟨i, t, if j ≤ T then j else T + 1, wr, T, decide (j ≤ T), true⟩
theorem stP_tick (i t wr T j : Int) : (stP i t wr T j).tick = stP i t wr T (j + 1) := by
  unfold stP Pe.tick Pe.older
  by_cases h : j ≤ T
  · by_cases h2 : j + 1 ≤ T
    · simp [h, h2]
    · have : j = T := by omega
      subst this
      simp
  · have h2 : ¬ j + 1 ≤ T := by omega
    simp [h, h2]
theorem stP_hear (i t wr T n step lim x inc : Int) (t2 : Int) (hx : x = inc) (hT : 0 ≤ T) (hm : 0 ≤ min lim (T + step)) : ({ (if i = (stP i t wr T n).known ∧ (stP i t wr T n).heard = false then { stP i t wr T n with wrong := (stP i t wr T n).wrong + 1, ticks := min lim ((stP i t wr T n).ticks + step) } else stP i t wr T n) with known := i, last := t2, age := 0, heard := true, both := decide (x = inc) } : Pe) = stP i t2 (if n ≤ T then wr else wr + 1) (if n ≤ T then T else min lim (T + step)) 0 := by
  subst hx
  unfold stP
  by_cases h : n ≤ T
  · simp [h, hT]
  · simp only [h, decide_false, and_self, if_true, if_false, decide_true]
    rw [if_pos hm, decide_eq_true hm]
theorem hear_se {n s b q : Nat} {inc step lim : Int} {p : Pe} (h : D.Ok w B m) (hm : m + 1 ≤ 4611686018427387904) (hS : Se D n s inc step lim b q p) (hq : q < n) (hs : q ≠ s) (hsn : s < n) (i t x : Int) (hi : 1 ≤ i ∧ i ≤ 4611686018427387904) (ht : 0 ≤ t ∧ t ≤ 4611686018427387904) (hx : 0 ≤ x ∧ x ≤ 4611686018427387904) {g : Nat} (hb : Below w.heap.size w w') (hg : w.heap.size ≤ g) (hk : BlkI w' g (heaI n s x)) (h1 : ¬ i < p.known) (h2 : ¬ (i = p.known ∧ t ≤ p.last)) :
    Calls Try.prog 15 #[.pointer (some ⟨b, 0, none⟩), .int .i64 q, .int .i64 i, .agg #[.int .i64 t, .slice (some ⟨g, 0, none⟩) n n]] w' fun e w2 => e = .returned (.int .i64 0) ∧ ∃ D', Dtep w w2 D D' B (m + 1) ∧ Se D' n s inc step lim b q { (if i = p.known ∧ p.heard = false then { p with wrong := p.wrong + 1, ticks := min lim (p.ticks + step) } else p) with known := i, last := t, age := 0, heard := true, both := decide (x = inc) } := by
  have he : D.herr q i t (heaI n s x) = 0 := by rw [hS.herr hq hs i t x hi ht hx, if_neg h1, if_neg h2]
  have hc := heard_any (c := n) (h.still hb) hm q i t (hk.rd (heaI_len n s x)) (fun g' ⟨o, e⟩ ho => by
    have := h.ltOwn ho
    simp only [Option.some.injEq, Addr.mk.injEq] at e
    omega)
  rw [he] at hc
  rw [← hS.b]
  exact hc.mono fun e w2 ⟨e1, e2⟩ => ⟨e1, _, e2.pre hb, hS.b ▸ hS.after hsn i t x he⟩
def gc (n s inc base step lim q f : Int) (ga : Option Addr) (gn gcap : Nat) : Array Value := #[.int .i64 n, .int .i64 s, .int .i64 inc, .int .i64 base, .int .i64 step, .int .i64 lim, .int .i64 q, .int .i64 f, .slice ga gn gcap]
structure GC (W : World) (k : Nat) (n s inc base step lim q f : Int) (ga : Option Addr) (gn gcap : Nat) : Prop where
  c0 : W.cell? ⟨k, 0, none⟩ = some (.int .i64 n)
  c1 : W.cell? ⟨k, 1, none⟩ = some (.int .i64 s)
  c2 : W.cell? ⟨k, 2, none⟩ = some (.int .i64 inc)
  c3 : W.cell? ⟨k, 3, none⟩ = some (.int .i64 base)
  c4 : W.cell? ⟨k, 4, none⟩ = some (.int .i64 step)
  c5 : W.cell? ⟨k, 5, none⟩ = some (.int .i64 lim)
  c6 : W.cell? ⟨k, 6, none⟩ = some (.int .i64 q)
  c7 : W.cell? ⟨k, 7, none⟩ = some (.int .i64 f)
  c8 : W.cell? ⟨k, 8, none⟩ = some (.slice ga gn gcap)
theorem GC.of {k : Nat} {n s inc base step lim q f : Int} {ga : Option Addr} {gn gcap : Nat} (h : W.heap[k]? = some (.cells (gc n s inc base step lim q f ga gn gcap) 50 (0, 0))) : GC W k n s inc base step lim q f ga gn gcap :=
  ⟨blk_cell h 0, blk_cell h 1, blk_cell h 2, blk_cell h 3, blk_cell h 4, blk_cell h 5, blk_cell h 6, blk_cell h 7, blk_cell h 8⟩
theorem below_to {k i B : Nat} {v : Value} (hb : Below B W V) (hk : k < B) (hc : W.cell? ⟨k, i, none⟩ = some v) : V.cell? ⟨k, i, none⟩ = some v := (hb.cell hk).trans hc
theorem GC.to {k : Nat} {n s inc base step lim q f : Int} {ga : Option Addr} {gn gcap : Nat} (h : GC W k n s inc base step lim q f ga gn gcap) {B : Nat} (hb : Below B W V) (hk : k < B) : GC V k n s inc base step lim q f ga gn gcap :=
  ⟨below_to hb hk h.c0, below_to hb hk h.c1, below_to hb hk h.c2, below_to hb hk h.c3, below_to hb hk h.c4, below_to hb hk h.c5, below_to hb hk h.c6, below_to hb hk h.c7, below_to hb hk h.c8⟩

set_option maxHeartbeats 1000000 in
theorem settles_no (n s inc base step lim q f : Int) (ga : Option Addr) (gn gcap : Nat) (hno : newOk n s inc base step lim = false) (hn : n ≤ 9223372036854775807) : Calls Try.prog 4 #[.agg (gc n s inc base step lim q f ga gn gcap)] w fun e w' => e = .returned (.bool true) ∧ Below w.heap.size w w' := by
  generalize hW : w.alloc (.cells (gc n s inc base step lim q f ga gn gcap) 50) = W
  have hbW : Below w.heap.size w W := by rw [← hW]; exact balloc (Below.refl _ w)
  have hblk : W.heap[w.heap.size]? = some (.cells (gc n s inc base step lim q f ga gn gcap) 50 (0, 0)) := by rw [← hW]; exact heap_alloc_new w _
  have hG := GC.of hblk
  have hlt := lt_heap hblk
  have HB : Hid (∀ w1, Calls Try.prog 9 #[.agg (rc n s inc base step lim none 0 0)] w1 fun e w' => e = .returned (.tuple #[.pointer none, .bool true]) ∧ Below w1.heap.size w1 w') := fun w1 => began_no n s inc base step lim none 0 0 hno
  have HA : Hid (∀ w1, Calls Try.prog 19 #[.int .i64 q, .int .i64 n, .int .i64 s] w1 fun e w' => e = .returned (.int .i64 (anoI q n s)) ∧ w1 = w') := fun w1 => ano_any q n s hn
  have HG : Hid (GC W w.heap.size n s inc base step lim q f ga gn gcap) := hG
  have Hb : Hid (Below w.heap.size w W) := hbW
  unfold gc at hW ⊢
  unfold rc at HB
  obtain ⟨c0, c1, c2, c3, c4, c5, c6, c7, c8⟩ := hG
  clear hblk hno hbW
  go_enter Try.func4, Try.ntmps4
  go_wp2_with (fail)
  refine (HB.out _).mono ?_
  rintro e w1 ⟨rfl, hb1⟩
  have B1 : Hid (Below W.heap.size W w1) := bstep (balloc (Below.refl _ W)) hb1
  obtain ⟨d0, d1, d2, d3, d4, d5, d6, d7, d8⟩ := HG.out.to B1.out hlt
  clear hb1
  go_wp2_with (first | (go_at_call 19; refine (HA.out _).mono ?_; rintro e w2 ⟨rfl, rfl⟩) | fail)
  go_ret
  exact ⟨rfl, bstep Hb.out B1.out⟩
set_option maxHeartbeats 1000000 in
theorem settles_lone (s : Nat) (inc base step lim q f : Int) (ga : Option Addr) (gn gcap : Nat) (hok : newOk 1 s inc base step lim = true) : Calls Try.prog 4 #[.agg (gc 1 s inc base step lim q f ga gn gcap)] w fun e w' => e = .returned (.bool true) ∧ Below w.heap.size w w' := by
  generalize hW : w.alloc (.cells (gc 1 s inc base step lim q f ga gn gcap) 50) = W
  have hbW : Below w.heap.size w W := by rw [← hW]; exact balloc (Below.refl _ w)
  have hblk : W.heap[w.heap.size]? = some (.cells (gc 1 s inc base step lim q f ga gn gcap) 50 (0, 0)) := by rw [← hW]; exact heap_alloc_new w _
  have hG := GC.of hblk
  have hlt := lt_heap hblk
  have HB : Hid (∀ w1, Calls Try.prog 9 #[.agg (rc ((1 : Nat) : Int) s inc base step lim none 0 0)] w1 fun e w' => ∃ D : De, e = .returned (.tuple #[.pointer (some ⟨D.b, 0, none⟩), .bool true]) ∧ Below w1.heap.size w1 w' ∧ D.Ok w' w1.heap.size 0 ∧ D.n = 1 ∧ D.self = s ∧ D.inc = inc ∧ D.step = step ∧ D.limit = lim ∧ D.left = false ∧ D.tick = 0 ∧ D.pe = fun _ => pe0 base) := fun w1 => began_new 1 s inc base step lim none 0 hok
  have HA : Hid (∀ w1, Calls Try.prog 19 #[.int .i64 q, .int .i64 1, .int .i64 (s : Int)] w1 fun e w' => e = .returned (.int .i64 (-1)) ∧ w1 = w') := fun w1 => ano_any q 1 s (by omega)
  have HG : Hid (GC W w.heap.size 1 s inc base step lim q f ga gn gcap) := hG
  have Hb : Hid (Below w.heap.size w W) := hbW
  unfold gc at hW ⊢
  unfold rc at HB
  obtain ⟨c0, c1, c2, c3, c4, c5, c6, c7, c8⟩ := hG
  clear hblk hok hbW
  go_enter Try.func4, Try.ntmps4
  go_wp2_with (fail)
  refine (HB.out _).mono ?_
  rintro e w1 ⟨D, rfl, hb1, -⟩
  have B1 : Hid (Below W.heap.size W w1) := bstep (balloc (Below.refl _ W)) hb1
  obtain ⟨d0, d1, d2, d3, d4, d5, d6, d7, d8⟩ := HG.out.to B1.out hlt
  clear hb1
  go_wp2_with (first | (go_at_call 19; refine (HA.out _).mono ?_; rintro e w2 ⟨rfl, rfl⟩) | fail)
  go_ret
  exact ⟨rfl, bstep Hb.out B1.out⟩

set_option maxHeartbeats 2000000 in
theorem settles_ok (n s : Nat) (inc base step lim q0 f : Int) (ga : Option Addr) (gn gcap : Nat) (zs : List Int) (hr : RdI w ga gn zs) (hgn : gn ≤ 17592186044416) (hok : newOk n s inc base step lim = true) (h2 : 2 ≤ n) : Calls Try.prog 4 #[.agg (gc n s inc base step lim q0 f ga gn gcap)] w fun e w' => e = .returned (.bool true) ∧ Below w.heap.size w w' := by
  generalize hW : w.alloc (.cells (gc n s inc base step lim q0 f ga gn gcap) 50) = W
  have hbW : Below w.heap.size w W := by rw [← hW]; exact balloc (Below.refl _ w)
  have hblk : W.heap[w.heap.size]? = some (.cells (gc n s inc base step lim q0 f ga gn gcap) 50 (0, 0)) := by rw [← hW]; exact heap_alloc_new w _
  have hG := GC.of hblk
  have hlt := lt_heap hblk
  have hk := hok
  unfold newOk at hk
  simp only [Bool.and_eq_true] at hk
  obtain ⟨b1, b2, b3, b4, b5, b6⟩ := hk
  have a1 := of_decide_eq_true b1
  have a2 := of_decide_eq_true b2
  have a3 := of_decide_eq_true b3
  have a4 := of_decide_eq_true b4
  have a5 := of_decide_eq_true b5
  have a6 := of_decide_eq_true b6
  have hsn : s < n := by omega
  have hano := anoI_is q0 h2 hsn
  obtain ⟨q, hq⟩ : ∃ q : Nat, anoI q0 n s = q := ⟨(anoI q0 n s).toNat, by omega⟩
  rw [hq] at hano
  have hqn : q < n := by omega
  have hqs : q ≠ s := by omega
  have HB : Hid (∀ w1, Calls Try.prog 9 #[.agg (rc n s inc base step lim none 0 0)] w1 fun e w' => ∃ D : De, e = .returned (.tuple #[.pointer (some ⟨D.b, 0, none⟩), .bool true]) ∧ Below w1.heap.size w1 w' ∧ D.Ok w' w1.heap.size 0 ∧ D.n = n ∧ D.self = s ∧ D.inc = inc ∧ D.step = step ∧ D.limit = lim ∧ D.left = false ∧ D.tick = 0 ∧ D.pe = fun _ => pe0 base) := fun w1 => began_new n s inc base step lim none 0 hok
  have HA : Hid (∀ w1, Calls Try.prog 19 #[.int .i64 q0, .int .i64 n, .int .i64 (s : Int)] w1 fun e w' => e = .returned (.int .i64 (q : Int)) ∧ w1 = w') := fun w1 => by have := ano_any (w := w1) q0 n s (by omega); rw [hq] at this; exact this
  have hp1 := posI_lt f (show (1 : Int) ≤ 1000 by omega)
  have hp2 := posI_lt f (show (1 : Int) ≤ 7 by omega)
  have HP1 : Hid (∀ w1, Calls Try.prog 14 #[.int .i64 f, .int .i64 1000] w1 fun e w' => e = .returned (.int .i64 (posI f 1000)) ∧ w1 = w') := fun w1 => pos_any f 1000 (by omega)
  have HP2 : Hid (∀ w1, Calls Try.prog 14 #[.int .i64 f, .int .i64 7] w1 fun e w' => e = .returned (.int .i64 (posI f 7)) ∧ w1 = w') := fun w1 => pos_any f 7 (by omega)
  generalize posI f 1000 = t0 at *
  have hi7 : IntKind.i64.wrap (1 + posI f 7) = 1 + posI f 7 := wrap_id (by omega) (by omega)
  obtain ⟨ic, hic⟩ : ∃ ic, 1 + posI f 7 = ic := ⟨_, rfl⟩
  rw [hic] at hi7
  have hic2 : 1 ≤ ic ∧ ic ≤ 7 := by omega
  have HH : Hid (∀ w1, Calls Try.prog 20 #[.int .i64 n, .int .i64 (s : Int), .int .i64 inc] w1 fun e w' => ∃ u, e = .returned u ∧ IsI w1 w' n (heaI n s inc) u) := fun w1 => hearsL_any n s inc (by omega) hsn
  have HG : Hid (GC W w.heap.size n s inc base step lim q0 f ga gn gcap) := hG
  have Hb : Hid (Below w.heap.size w W) := hbW
  have HR : Hid (RdI W ga gn zs) := hr.still hbW
  have HR0 : Hid (RdI w ga gn zs) := hr
  unfold gc at hW ⊢
  unfold rc at HB
  obtain ⟨c0, c1, c2, c3, c4, c5, c6, c7, c8⟩ := hG
  clear hblk hok hbW hr hq hano b1 b2 b3 b4 b5 b6
  go_enter Try.func4, Try.ntmps4
  go_wp2_with (fail)
  generalize hW0 : W.alloc _ = W0
  have hb0 : Below W.heap.size W W0 := by rw [← hW0]; exact balloc (Below.refl _ W)
  refine (HB.out _).mono ?_
  rintro e w1 ⟨D, rfl, hb1, hD, d1, d2, d3, d4, d5, d6, d7, d8⟩
  have HB1 : Hid (Below W.heap.size W w1) := bstep hb0 hb1
  have HD : Hid (D.Ok w1 W0.heap.size 0) := hD
  have HS : Hid (Se D n s inc step lim D.b q (pe0 base)) := ⟨d1, d2, d3, d4, d5, d6, rfl, by rw [d8]⟩
  have hsz : W0.heap.size ≤ w1.heap.size := hb1.size
  have hsz0 : W.heap.size ≤ W0.heap.size := hb0.size
  obtain ⟨e0, e1, e2, e3, e4, e5, e6, e7, e8⟩ := HG.out.to HB1.out hlt
  have HG1 : Hid (GC w1 w.heap.size n s inc base step lim q0 f ga gn gcap) := HG.out.to HB1.out hlt
  have HR1 : Hid (RdI w1 ga gn zs) := HR.out.still HB1.out
  have Hb1 : Hid (Below w.heap.size w w1) := bstep Hb.out HB1.out
  generalize W0.heap.size = B at *
  clear hb0 hb1 hD d1 d2 d3 d4 d5 d6 d7 d8 hW0 c0 c1 c2 c3 c4 c5 c6 c7 c8 HG HR hW HB1 Hb
  go_wp2_with (fail)
  refine (HA.out _).mono ?_
  rintro e w2 ⟨rfl, rfl⟩
  go_wp2_with (fail)
  refine (HP1.out _).mono ?_
  rintro e w2 ⟨rfl, rfl⟩
  go_wp2_with (fail)
  refine (HP2.out _).mono ?_
  rintro e w2 ⟨rfl, rfl⟩
  simp only [hic]
  go_wp2_with (fail)
  refine (HH.out _).mono ?_
  rintro e w2 ⟨u, rfl, g, rfl, hg, hBk, hbl⟩
  have HH1 : Hid (Calls Try.prog 15 #[.pointer (some ⟨D.b, 0, none⟩), .int .i64 q, .int .i64 ic, .agg #[.int .i64 t0, .slice (some ⟨g, 0, none⟩) n n]] w2 fun e w2 => e = .returned (.int .i64 0) ∧ ∃ D', Dtep w1 w2 D D' B 1 ∧ Se D' n s inc step lim D.b q (stP ic t0 0 base 0)) := by
    refine (hear_se HD.out (by omega) HS.out hqn hqs hsn ic t0 inc ⟨by omega, by omega⟩ ⟨by omega, by omega⟩ ⟨by omega, a3.2⟩ hbl hg hBk (by show ¬ ic < 0; omega) (by show ¬ (ic = 0 ∧ t0 ≤ 0); omega)).mono ?_
    rintro e w3 ⟨e1, D', e2, e3⟩
    refine ⟨e1, D', e2, ?_⟩
    have e4 : ({ (if ic = (pe0 base).known ∧ (pe0 base).heard = false then { pe0 base with wrong := (pe0 base).wrong + 1, ticks := min lim ((pe0 base).ticks + step) } else pe0 base) with known := ic, last := t0, age := 0, heard := true, both := decide (inc = inc) } : Pe) = stP ic t0 0 base 0 := by
      unfold stP pe0
      rw [if_neg (by show ¬ (ic = 0 ∧ _); omega), if_pos (by omega), decide_eq_true (show (0 : Int) ≤ base by omega)]
      simp
    rw [e4] at e3
    exact e3
  clear hg hBk hbl
  go_wp2_with (fail)
  refine HH1.out.mono ?_
  rintro e w3 ⟨rfl, D1, T1, S1⟩
  have HT : Hid (D1.Ok w3 B 1) := T1.ok
  have HS1 : Hid (Se D1 n s inc step lim D.b q (stP ic t0 0 base 0)) := S1
  have Hl : Hid (Below B w1 w3) := T1.low (HD.out.mono (Nat.zero_le 1) (by omega)) hsz
  obtain ⟨m0, m1, m2, m3, m4, m5, m6, m7, m8⟩ := HG1.out.to Hl.out (show w.heap.size < B by omega)
  generalize D.b = b at *
  clear T1 S1 HH1 HD HS e0 e1 e2 e3 e4 e5 e6 e7 e8 HB HA HP1 HP2
  go_wp2_with (first | (go_at_call 21; refine (num_any _).mono ?_; rintro e w5 ⟨rfl, rfl⟩) | fail)
  go_loopw [7, 10, 11, 12] (fun v7 v10 v11 v12 wr => ∃ (i : Nat) (T x : Int) (D2 : De), i ≤ gn ∧ v12 = .int .i64 (i : Int) ∧ v7 = .int .i64 (t0 + i) ∧ v10 = .int .i64 T ∧ v11 = .int .i64 x ∧ D2.Ok wr B (i + 1) ∧ Se D2 n s inc step lim b q (stP ic (t0 + i) x T 0) ∧ Below B w1 wr ∧ T = min lim (base + x * step) ∧ 0 ≤ x ∧ x * step < lim - base + step) (fun _ _ _ v12 _ => gn - (intOf v12).toNat)
  case atStart => exact ⟨0, base, 0, D1, Nat.zero_le _, rfl, by simp, rfl, rfl, HT.out, by simpa using HS1.out, Hl.out, by omega, by omega, by omega⟩
  case round =>
    obtain ⟨i, T, x, D2, hi, rfl, rfl, rfl, rfl, hD, hS, hl, hTe, hx0, hx1⟩ := hrel
    have hG2 := HG1.out.to hl (show w.heap.size < B by omega)
    have hBr : B ≤ wr.heap.size := Nat.le_trans hsz hl.size
    have hlw : Below w.heap.size w wr := Hb1.out.trans (hl.mono (by omega))
    have hT1 : 1 ≤ T ∧ T ≤ lim := by
      have : 0 ≤ x * step := Int.mul_nonneg hx0 (by omega)
      omega
    by_cases hlt2 : i < gn
    · obtain ⟨gb, go, hga, ex⟩ := (HR0.out.still hlw).at hlt2
      have hp := posI_lt (zs.getD i 0) (show 1 ≤ lim + 1 by omega)
      have HPo : Hid (∀ w1, Calls Try.prog 14 #[.int .i64 (zs.getD i 0), .int .i64 (lim + 1)] w1 fun e w' => e = .returned (.int .i64 (posI (zs.getD i 0) (lim + 1))) ∧ w1 = w') := fun w1 => pos_any _ _ (by omega)
      generalize posI (zs.getD i 0) (lim + 1) = ng at hp HPo
      generalize zs.getD i 0 = gx at *
      obtain ⟨e0, e1, e2, e3, e4, e5, e6, e7, e8⟩ := hG2
      have HD2 : Hid (D2.Ok wr B (i + 1)) := hD
      have HS2 : Hid (Se D2 n s inc step lim b q (stP ic (t0 + i) x T 0)) := hS
      have Hl2 : Hid (Below B w1 wr) := hl
      have HTe : Hid (T = min lim (base + x * step)) := hTe
      have i1 : (0 : Int) ≤ (i : Int) := Int.natCast_nonneg _
      have i2 : (i : Int) < (gn : Int) := by omega
      have hwl : IntKind.i64.wrap (lim + 1) = lim + 1 := wrap_id (by omega) (by omega)
      rw [hga] at e8
      clear hD hS hl hlw hTe hga
      go_wp2
      refine wp_region_held_drew (S := (fun w' => w'.cell? ⟨w.heap.size, 8, none⟩ = some (.slice (some ⟨gb, go, none⟩) gn gcap) ∧ w'.cell? ⟨gb, go + i, none⟩ = some (.int .i64 gx) ∧ w'.cell? ⟨w.heap.size, 5, none⟩ = some (.int .i64 lim))) (by kernel_rfl) ⟨cell_drew e8, cell_drew ex, cell_drew e5⟩ (fun hHeld => ?_)
      simp only [Act.put, List.size_toArray, List.length_cons, List.length_nil, Nat.zero_add]
      refine wpAnyH_take (i := 0) (v := .pointer (some ⟨w.heap.size, 8, none⟩)) rfl (by kernel_rfl) (by kernel_rfl) (by kernel_rfl) (fun _ _ _ h => h) (Or.inl ⟨by rfl, fun w' hS => by go_simp⟩) hHeld ?_
      simp only [Act.put, List.getElem_toArray, List.getElem_cons_zero, List.getElem_cons_succ, List.setIfInBounds_toArray, List.set_cons_zero, List.set_cons_succ]
      refine wpAnyH_take (i := 1) (v := .slice (some ⟨gb, go, none⟩) gn gcap) rfl (by kernel_rfl) (by kernel_rfl) (by kernel_rfl) (fun _ _ _ h => h) (Or.inl ⟨by rfl, fun w' hS => by (obtain ⟨s0, s1, s2⟩ := hS; go_simp)⟩) hHeld ?_
      simp only [Act.put, List.getElem_toArray, List.getElem_cons_zero, List.getElem_cons_succ, List.setIfInBounds_toArray, List.set_cons_zero, List.set_cons_succ]
      refine wpAnyH_take (i := 2) (v := .int .i64 (i : Int)) rfl (by kernel_rfl) (by kernel_rfl) (by kernel_rfl) (fun _ _ _ h => h) (Or.inl ⟨by rfl, fun w' hS => by go_simp⟩) hHeld ?_
      simp only [Act.put, List.getElem_toArray, List.getElem_cons_zero, List.getElem_cons_succ, List.setIfInBounds_toArray, List.set_cons_zero, List.set_cons_succ]
      refine wpAnyH_take (i := 3) (v := .pointer (some ⟨gb, go + i, none⟩)) rfl (by kernel_rfl) (by kernel_rfl) (by kernel_rfl) (fun _ _ _ h => h) (Or.inl ⟨by rfl, fun w' hS => by go_simp⟩) hHeld ?_
      simp only [Act.put, List.getElem_toArray, List.getElem_cons_zero, List.getElem_cons_succ, List.setIfInBounds_toArray, List.set_cons_zero, List.set_cons_succ]
      refine wpAnyH_take (i := 4) (v := .int .i64 gx) rfl (by kernel_rfl) (by kernel_rfl) (by kernel_rfl) (fun _ _ _ h => h) (Or.inl ⟨by rfl, fun w' hS => by (obtain ⟨s0, s1, s2⟩ := hS; go_simp)⟩) hHeld ?_
      simp only [Act.put, List.getElem_toArray, List.getElem_cons_zero, List.getElem_cons_succ, List.setIfInBounds_toArray, List.set_cons_zero, List.set_cons_succ]
      refine wpAnyH_take (i := 5) (v := .pointer (some ⟨w.heap.size, 5, none⟩)) rfl (by kernel_rfl) (by kernel_rfl) (by kernel_rfl) (fun _ _ _ h => h) (Or.inl ⟨by rfl, fun w' hS => by go_simp⟩) hHeld ?_
      simp only [Act.put, List.getElem_toArray, List.getElem_cons_zero, List.getElem_cons_succ, List.setIfInBounds_toArray, List.set_cons_zero, List.set_cons_succ]
      refine wpAnyH_take (i := 6) (v := .int .i64 lim) rfl (by kernel_rfl) (by kernel_rfl) (by kernel_rfl) (fun _ _ _ h => h) (Or.inl ⟨by rfl, fun w' hS => by (obtain ⟨s0, s1, s2⟩ := hS; go_simp)⟩) hHeld ?_
      simp only [Act.put, List.getElem_toArray, List.getElem_cons_zero, List.getElem_cons_succ, List.setIfInBounds_toArray, List.set_cons_zero, List.set_cons_succ]
      refine wpAnyH_take (i := 7) (v := .int .i64 (lim + 1)) rfl (by kernel_rfl) (by kernel_rfl) (by kernel_rfl) (fun _ _ _ h => h) (Or.inl ⟨by rfl, fun w' hS => by go_simp⟩) hHeld ?_
      simp only [Act.put, List.getElem_toArray, List.getElem_cons_zero, List.getElem_cons_succ, List.setIfInBounds_toArray, List.set_cons_zero, List.set_cons_succ]
      refine wpAnyH_ready (rs := [8]) (by kernel_rfl) (by simp) ?_
      refine AllReadyH.cons rfl (fun K hK => ?_) AllReadyH.nil
      go_simp
      refine (HPo.out _).mono ?_
      rintro e w2 ⟨rfl, rfl⟩
      refine hK.out _ _ ⟨cell_drew e8, cell_drew ex, cell_drew e5⟩ (fun hHeld => ?_)
      clear hK K
      refine wpAnyH_take (i := 9) (v := .int .i64 ng) rfl (by kernel_rfl) (by kernel_rfl) (by kernel_rfl) (fun _ _ _ h => h) (Or.inl ⟨by rfl, fun w' hS => by go_simp⟩) hHeld ?_
      simp only [Act.put, List.getElem_toArray, List.getElem_cons_zero, List.getElem_cons_succ, List.setIfInBounds_toArray, List.set_cons_zero, List.set_cons_succ]
      refine wpAnyH_done (by kernel_rfl) ?_ _
      clear hHeld
      have HD3 : Hid (D2.Ok wr.drew B (i + 1)) := HD2.out.still (Below.refl _ _).drew
      have Hl3 : Hid (Below B w1 wr.drew) := Hl2.out.drew
      generalize wr.drew = V at *
      clear hHeld ex e0 e1 e2 e3 e4 e5 e6 e7 e8 HD2 Hl2 HPo hwl
      go_wp2
      go_loopw [14] (fun v14 wr => ∃ (k : Nat) (D3 : De), 1 ≤ k ∧ (k : Int) ≤ ng + 1 ∧ v14 = .int .i64 (k : Int) ∧ D3.Ok wr B (i + 1) ∧ Se D3 n s inc step lim b q (stP ic (t0 + i) x T ((k : Int) - 1)) ∧ Below B w1 wr) (fun v14 _ => ng.toNat + 1 - (intOf v14).toNat)
      case atStart => exact ⟨1, D2, Nat.le_refl _, by omega, rfl, HD3.out, by simpa using HS2.out, Hl3.out⟩
      case round =>
        obtain ⟨k, D3, hk1, hk2, rfl, hD, hS, hl⟩ := hrel
        have hBr3 : B ≤ wr.heap.size := Nat.le_trans hsz hl.size
        by_cases hkn : (k : Int) ≤ ng
        · have HTk : Hid (Calls Try.prog 10 #[.pointer (some ⟨b, 0, none⟩)] wr fun e w' => e = .returned (.tuple #[]) ∧ Dtep wr w' D3 D3.ticked B (i + 1)) := by
            have := tick_any hD
            rw [hS.b] at this
            exact this
          have hS4 := hS.tick hqn hqs
          rw [stP_tick, show (k : Int) - 1 + 1 = (k : Int) by omega] at hS4
          have HS4 : Hid (Se D3.ticked n s inc step lim b q (stP ic (t0 + i) x T (k : Int))) := hS4
          have HD4 : Hid (D3.Ok wr B (i + 1)) := hD
          have Hl4 : Hid (Below B w1 wr) := hl
          clear hD hS hl hS4
          go_wp2_with (fail)
          refine HTk.out.mono ?_
          rintro e w4 ⟨rfl, T4⟩
          have HD5 : Hid (D3.ticked.Ok w4 B (i + 1)) := T4.ok
          have Hl5 : Hid (Below B w1 w4) := Hl4.out.trans (T4.low HD4.out hBr3)
          clear T4 HTk
          generalize D3.ticked = D4 at *
          have HHe : Hid (Calls Try.prog 22 #[.pointer (some ⟨b, 0, none⟩)] w4 fun e w' => ∃ v, e = .returned v ∧ IsI w4 w' n D4.hears v) := by
            have := hears_any HD5.out
            rw [HS4.out.b, HS4.out.n] at this
            exact this
          go_wp2_with (fail)
          refine HHe.out.mono ?_
          rintro e w5 ⟨v, rfl, g5, rfl, hg5, hB5, hb5⟩
          have hA5 : Hid (Calls Try.prog 13 #[.slice (some ⟨g5, 0, none⟩) n n, .int .i64 (q : Int)] w5 fun e w' => e = .returned (.int .i64 (if (k : Int) ≤ T then ic else 0)) ∧ w5 = w') := by
            have := at_any (c := n) (hB5.rd (n := n) (by unfold De.hears; rw [lst_len, HS4.out.n])) (q : Int)
            rw [HS4.out.hears hqn hqs] at this
            unfold stP at this
            simp only [decide_eq_true_eq] at this
            exact this
          have HEs : Hid (Calls Try.prog 17 #[.pointer (some ⟨b, 0, none⟩)] w5 fun e w' => ∃ v, e = .returned v ∧ IsI w5 w' n D4.ests v) := by
            have := est_any (HD5.out.still hb5)
            rw [HS4.out.b, HS4.out.n] at this
            exact this
          have HD6 : Hid (D4.Ok w5 B (i + 1)) := HD5.out.still hb5
          have Hl6 : Hid (Below B w1 w5) := Hl5.out.trans (hb5.mono (Nat.le_trans hsz Hl5.out.size))
          have hic0 : ¬ ((0 : Int) = ic) := by omega
          have hic1 : ¬ (ic = (0 : Int)) := by omega
          clear hg5 hB5 hb5 HHe
          by_cases hkT : (k : Int) ≤ T
          · rw [if_pos hkT] at hA5
            go_wp2_with (fail)
            refine hA5.out.mono ?_
            rintro e w6 ⟨rfl, rfl⟩
            go_wp2_with (fail)
            refine HEs.out.mono ?_
            rintro e w6 ⟨v, rfl, g6, rfl, hg6, hB6, hb6⟩
            have hA6 : Hid (Calls Try.prog 13 #[.slice (some ⟨g6, 0, none⟩) n n, .int .i64 (q : Int)] w6 fun e w' => e = .returned (.int .i64 ic) ∧ w6 = w') := by
              have := at_any (c := n) (hB6.rd (n := n) (by unfold De.ests; rw [lst_len, HS4.out.n])) (q : Int)
              rw [HS4.out.ests hqn hqs] at this
              unfold stP at this
              simp only [Bool.and_true, decide_eq_true_eq] at this
              rw [if_pos hkT] at this
              exact this
            have HD7 : Hid (D4.Ok w6 B (i + 1)) := HD6.out.still hb6
            have Hl7 : Hid (Below B w1 w6) := Hl6.out.trans (hb6.mono (Nat.le_trans hsz Hl6.out.size))
            clear hg6 hB6 hb6 HEs hA5
            go_wp2_with (fail)
            refine hA6.out.mono ?_
            rintro e w7 ⟨rfl, rfl⟩
            go_wp2
            exact ⟨⟨k + 1, D4, by omega, by omega, by go_num, HD7.out, by rw [show ((k + 1 : Nat) : Int) - 1 = (k : Int) by omega]; exact HS4.out, Hl7.out⟩, by simp [intOf]; omega⟩
          · rw [if_neg hkT] at hA5
            have hq0 : ((0 : Int) == ic) = false := by simp; omega
            have hq1 : decide ((k : Int) ≤ T) = false := decide_eq_false hkT
            go_wp2_with (fail)
            refine hA5.out.mono ?_
            rintro e w6 ⟨rfl, rfl⟩
            go_wp2_with (fail)
            refine HEs.out.mono ?_
            rintro e w6 ⟨v, rfl, g6, rfl, hg6, hB6, hb6⟩
            have hA6 : Hid (Calls Try.prog 13 #[.slice (some ⟨g6, 0, none⟩) n n, .int .i64 (q : Int)] w6 fun e w' => e = .returned (.int .i64 0) ∧ w6 = w') := by
              have := at_any (c := n) (hB6.rd (n := n) (by unfold De.ests; rw [lst_len, HS4.out.n])) (q : Int)
              rw [HS4.out.ests hqn hqs] at this
              unfold stP at this
              simp only [Bool.and_true, decide_eq_true_eq] at this
              rw [if_neg (show ¬ (k : Int) ≤ T by omega)] at this
              exact this
            have HD7 : Hid (D4.Ok w6 B (i + 1)) := HD6.out.still hb6
            have Hl7 : Hid (Below B w1 w6) := Hl6.out.trans (hb6.mono (Nat.le_trans hsz Hl6.out.size))
            clear hg6 hB6 hb6 HEs hA5
            go_wp2_with (fail)
            refine hA6.out.mono ?_
            rintro e w7 ⟨rfl, rfl⟩
            go_wp2
            exact ⟨⟨k + 1, D4, by omega, by omega, by go_num, HD7.out, by rw [show ((k + 1 : Nat) : Int) - 1 = (k : Int) by omega]; exact HS4.out, Hl7.out⟩, by simp [intOf]; omega⟩
        · have hkk : (k : Int) - 1 = ng := by omega
          have hkd : decide ((k : Int) ≤ ng) = false := decide_eq_false hkn
          rw [hkk] at hS
          have hG4 := HG1.out.to hl (show w.heap.size < B by omega)
          obtain ⟨e0, e1, e2, e3, e4, e5, e6, e7, e8⟩ := hG4
          have HD4 : Hid (D3.Ok wr B (i + 1)) := hD
          have HS4 : Hid (Se D3 n s inc step lim b q (stP ic (t0 + i) x T ng)) := hS
          have Hl4 : Hid (Below B w1 wr) := hl
          have hwt : IntKind.i64.wrap (t0 + (i : Int) + 1) = t0 + (i : Int) + 1 := wrap_id (by omega) (by omega)
          clear hD hS hl
          go_wp2_with (fail)
          refine (HH.out _).mono ?_
          rintro e w5 ⟨u, rfl, g5, rfl, hg5, hB5, hb5⟩
          have HH5 : Hid (Calls Try.prog 15 #[.pointer (some ⟨b, 0, none⟩), .int .i64 q, .int .i64 ic, .agg #[.int .i64 (t0 + i + 1), .slice (some ⟨g5, 0, none⟩) n n]] w5 fun e w2 => e = .returned (.int .i64 0) ∧ ∃ D', Dtep wr w2 D3 D' B (i + 1 + 1) ∧ Se D' n s inc step lim b q (stP ic (t0 + i + 1) (if ng ≤ T then x else x + 1) (if ng ≤ T then T else min lim (T + step)) 0)) := by
            refine (hear_se HD4.out (by omega) HS4.out hqn hqs hsn ic (t0 + i + 1) inc ⟨by omega, by omega⟩ ⟨by omega, by omega⟩ ⟨by omega, a3.2⟩ hb5 hg5 hB5 (by show ¬ ic < ic; omega) (by show ¬ (ic = ic ∧ t0 + i + 1 ≤ t0 + i); omega)).mono ?_
            rintro e w3 ⟨e1, D', e2, e3⟩
            refine ⟨e1, D', e2, ?_⟩
            rw [stP_hear ic (t0 + i) x T ng step lim inc inc (t0 + i + 1) rfl (by omega) (by omega)] at e3
            exact e3
          clear hg5 hB5 hb5
          go_wp2_with (fail)
          refine HH5.out.mono ?_
          rintro e w6 ⟨rfl, D5, T5, S5⟩
          have HD5 : Hid (D5.Ok w6 B (i + 1 + 1)) := T5.ok
          have Hl5 : Hid (Below B w1 w6) := Hl4.out.trans (T5.low (HD4.out.mono (Nat.le_succ _) (by omega)) hBr3)
          have HS5 : Hid (Se D5 n s inc step lim b q (stP ic (t0 + i + 1) (if ng ≤ T then x else x + 1) (if ng ≤ T then T else min lim (T + step)) 0)) := S5
          obtain ⟨r0, r1, r2, r3, r4, r5, r6, r7, r8⟩ := HG1.out.to Hl5.out (show w.heap.size < B by omega)
          clear T5 S5 HH5 HD4 HS4 Hl4 e0 e1 e2 e3 e4 e5 e6 e7 e8
          obtain ⟨T', x', hT', hx', hT1', hTe', hx0', hx1'⟩ : ∃ T' x', T' = (if ng ≤ T then T else min lim (T + step)) ∧ x' = (if ng ≤ T then x else x + 1) ∧ (1 ≤ T' ∧ T' ≤ lim) ∧ T' = min lim (base + x' * step) ∧ 0 ≤ x' ∧ x' * step < lim - base + step := by
            refine ⟨_, _, rfl, rfl, ?_⟩
            have hTe := HTe.out
            by_cases hng : ng ≤ T
            · simp only [hng, if_true]
              exact ⟨hT1, hTe, hx0, hx1⟩
            · simp only [hng, if_false]
              have hm : (x + 1) * step = x * step + step := by rw [Int.add_mul, Int.one_mul]
              rw [hm]
              have : T = base + x * step := by omega
              exact ⟨by omega, by omega, by omega, by omega⟩
          rw [← hT', ← hx'] at HS5
          have HTe2 : Hid (T' = min lim (base + x' * step)) := hTe'
          clear hTe'
          have HWr : Hid (∀ w', Below w6.heap.size w6 w' → Calls Try.prog 24 #[.pointer (some ⟨b, 0, none⟩), .int .i64 (q : Int)] w' fun e w2 => e = .returned (.int .i64 x') ∧ w' = w2) := fun w' hb => by
            have := wrong_any (HD5.out.still hb) (q : Int)
            rw [HS5.out.b, HS5.out.wrong hqn hqs] at this
            exact this
          have HTo : Hid (∀ w', Below w6.heap.size w6 w' → Calls Try.prog 25 #[.pointer (some ⟨b, 0, none⟩), .int .i64 (q : Int)] w' fun e w2 => e = .returned (.int .i64 T') ∧ w' = w2) := fun w' hb => by
            have := timeout_any (HD5.out.still hb) (q : Int)
            rw [HS5.out.b, HS5.out.timeout hqn hqs] at this
            exact this
          have HHe : Hid (Calls Try.prog 22 #[.pointer (some ⟨b, 0, none⟩)] w6 fun e w' => ∃ v, e = .returned v ∧ IsI w6 w' n D5.hears v) := by
            have := hears_any HD5.out
            rw [HS5.out.b, HS5.out.n] at this
            exact this
          have HLe : Hid (∀ w', Calls Try.prog 23 #[.int .i64 lim, .int .i64 (T + step)] w' fun e w2 => e = .returned (.int .i64 (min lim (T + step))) ∧ w' = w2) := fun w' => by
            have := least_any (w := w') lim (T + step)
            rw [show minI lim (T + step) = min lim (T + step) by unfold minI; split <;> omega] at this
            exact this
          have hws : IntKind.i64.wrap (T + step) = T + step := wrap_id (by omega) (by omega)
          have hwx : IntKind.i64.wrap (x + 1) = x + 1 := by
            have : x * 1 ≤ x * step := Int.mul_le_mul_of_nonneg_left (by omega) hx0
            exact wrap_id (by omega) (by omega)
          have Hfin : Hid (∀ w7, Below B w1 w7 → D5.Ok w7 B (i + 1 + 1) → ∃ (i_1 : Nat) (T_1 x_1 : Int) (D2 : De), i_1 ≤ gn ∧ Value.int .i64 ((i : Int) + 1) = .int .i64 (i_1 : Int) ∧ Value.int .i64 (t0 + i + 1) = .int .i64 (t0 + i_1) ∧ Value.int .i64 T' = .int .i64 T_1 ∧ Value.int .i64 x' = .int .i64 x_1 ∧ D2.Ok w7 B (i_1 + 1) ∧ Se D2 n s inc step lim b q (stP ic (t0 + i_1) x_1 T_1 0) ∧ Below B w1 w7 ∧ T_1 = min lim (base + x_1 * step) ∧ 0 ≤ x_1 ∧ x_1 * step < lim - base + step) := fun w7 h1 h2 => ⟨i + 1, T', x', D5, by omega, by simp, by congr 1; omega, rfl, rfl, h2, by rw [show t0 + ((i + 1 : Nat) : Int) = t0 + i + 1 by omega]; exact HS5.out, h1, HTe2.out, hx0', hx1'⟩
          by_cases hng : ng ≤ T
          · have hgd : decide (T < ng) = false := decide_eq_false (by omega)
            have hgd2 : decide (ng > T) = false := decide_eq_false (by omega)
            rw [if_pos hng] at hT' hx'
            subst hT' hx'
            go_wp2_with (first
              | (go_at_call 23; refine (HLe.out _).mono ?_; rintro e w7 ⟨rfl, rfl⟩; simp only [← hT'])
              | (go_at_call 21; refine (num_any _).mono ?_; rintro e w7 ⟨rfl, rfl⟩)
              | (go_at_call 24; refine (HWr.out _ (Below.refl _ _)).mono ?_; rintro e w7 ⟨rfl, rfl⟩)
              | (go_at_call 25; refine (HTo.out _ (Below.refl _ _)).mono ?_; rintro e w7 ⟨rfl, rfl⟩)
              | (go_at_call 22; refine HHe.out.mono ?_; rintro e w7 ⟨v, rfl, g7, rfl, hg7, hB7, hb7⟩; have hA7 : Hid (Calls Try.prog 13 #[.slice (some ⟨g7, 0, none⟩) n n, .int .i64 (q : Int)] w7 fun e w' => e = .returned (.int .i64 ic) ∧ w7 = w') := (by have := at_any (c := n) (hB7.rd (n := n) (by unfold De.hears; rw [lst_len, HS5.out.n])) (q : Int); rw [HS5.out.hears hqn hqs] at this; unfold stP at this; simp only [decide_eq_true_eq] at this; rw [if_pos (by omega)] at this; exact this); have HF7 := Hfin.out w7 (Hl5.out.trans (hb7.mono (Nat.le_trans hsz Hl5.out.size))) (HD5.out.still hb7); clear hg7 hB7 hb7)
              | (go_at_call 13; refine hA7.out.mono ?_; rintro e w8 ⟨rfl, rfl⟩)
              | fail)
            go_roundw
            case rel =>
              exact HF7
            case measure => simp [intOf]; omega
          · have hgd : decide (T < ng) = true := decide_eq_true (by omega)
            have hgd2 : decide (ng > T) = true := decide_eq_true (by omega)
            rw [if_neg hng] at hT' hx'
            have HLe2 : Hid (∀ w', Calls Try.prog 23 #[.int .i64 lim, .int .i64 (T + step)] w' fun e w2 => e = .returned (.int .i64 T') ∧ w' = w2) := fun w' => by rw [hT']; exact HLe.out w'
            subst hx'
            clear hT' HLe
            go_wp2_with (first
              | (go_at_call 23; refine (HLe2.out _).mono ?_; rintro e w7 ⟨rfl, rfl⟩)
              | (go_at_call 21; refine (num_any _).mono ?_; rintro e w7 ⟨rfl, rfl⟩)
              | (go_at_call 24; refine (HWr.out _ (Below.refl _ _)).mono ?_; rintro e w7 ⟨rfl, rfl⟩)
              | (go_at_call 25; refine (HTo.out _ (Below.refl _ _)).mono ?_; rintro e w7 ⟨rfl, rfl⟩)
              | (go_at_call 22; refine HHe.out.mono ?_; rintro e w7 ⟨v, rfl, g7, rfl, hg7, hB7, hb7⟩; have hA7 : Hid (Calls Try.prog 13 #[.slice (some ⟨g7, 0, none⟩) n n, .int .i64 (q : Int)] w7 fun e w' => e = .returned (.int .i64 ic) ∧ w7 = w') := (by have := at_any (c := n) (hB7.rd (n := n) (by unfold De.hears; rw [lst_len, HS5.out.n])) (q : Int); rw [HS5.out.hears hqn hqs] at this; unfold stP at this; simp only [decide_eq_true_eq] at this; rw [if_pos (by omega)] at this; exact this); have HF7 := Hfin.out w7 (Hl5.out.trans (hb7.mono (Nat.le_trans hsz Hl5.out.size))) (HD5.out.still hb7); clear hg7 hB7 hb7)
              | (go_at_call 13; refine hA7.out.mono ?_; rintro e w8 ⟨rfl, rfl⟩)
              | fail)
            go_roundw
            case rel =>
              exact HF7
            case measure => simp [intOf]; omega
    · obtain rfl : i = gn := by omega
      have hdd : decide ((i : Int) < (i : Int)) = false := decide_eq_false (by omega)
      obtain ⟨e0, e1, e2, e3, e4, e5, e6, e7, e8⟩ := hG2
      have HWr : Hid (∀ w', Below wr.heap.size wr w' → Calls Try.prog 24 #[.pointer (some ⟨b, 0, none⟩), .int .i64 (q : Int)] w' fun e w2 => e = .returned (.int .i64 x) ∧ w' = w2) := fun w' hb => by
        have := wrong_any (hD.still hb) (q : Int)
        rw [hS.b, hS.wrong hqn hqs] at this
        exact this
      have hw1 : IntKind.i64.wrap (x * step) = x * step := by
        have : 0 ≤ x * step := Int.mul_nonneg hx0 (by omega)
        exact wrap_id (by omega) (by omega)
      have hw2 : IntKind.i64.wrap (lim - base) = lim - base := wrap_id (by omega) (by omega)
      have hw3 : IntKind.i64.wrap (lim - base + step) = lim - base + step := wrap_id (by omega) (by omega)
      have Hlw : Hid (Below w.heap.size w wr) := hlw
      clear hD hS hl hlw hTe
      go_wp2
      refine wp_region_held_drew (S := (fun w' => w'.cell? ⟨w.heap.size, 3, none⟩ = some (.int .i64 base) ∧ w'.cell? ⟨w.heap.size, 4, none⟩ = some (.int .i64 step) ∧ w'.cell? ⟨w.heap.size, 5, none⟩ = some (.int .i64 lim))) (by kernel_rfl) ⟨cell_drew e3, cell_drew e4, cell_drew e5⟩ (fun hHeld => ?_)
      simp only [Act.put, List.size_toArray, List.length_cons, List.length_nil, Nat.zero_add]
      refine wpAnyH_take (i := 0) (v := .pointer (some ⟨b, 0, none⟩)) rfl (by kernel_rfl) (by kernel_rfl) (by kernel_rfl) (fun _ _ _ h => h) (Or.inl ⟨by rfl, fun w' hS => by go_simp⟩) hHeld ?_
      simp only [Act.put, List.getElem_toArray, List.getElem_cons_zero, List.getElem_cons_succ, List.setIfInBounds_toArray, List.set_cons_zero, List.set_cons_succ]
      refine wpAnyH_take (i := 1) (v := .int .i64 (q : Int)) rfl (by kernel_rfl) (by kernel_rfl) (by kernel_rfl) (fun _ _ _ h => h) (Or.inl ⟨by rfl, fun w' hS => by go_simp⟩) hHeld ?_
      simp only [Act.put, List.getElem_toArray, List.getElem_cons_zero, List.getElem_cons_succ, List.setIfInBounds_toArray, List.set_cons_zero, List.set_cons_succ]
      refine wpAnyH_take (i := 3) (v := .pointer (some ⟨w.heap.size, 4, none⟩)) rfl (by kernel_rfl) (by kernel_rfl) (by kernel_rfl) (fun _ _ _ h => h) (Or.inl ⟨by rfl, fun w' hS => by go_simp⟩) hHeld ?_
      simp only [Act.put, List.getElem_toArray, List.getElem_cons_zero, List.getElem_cons_succ, List.setIfInBounds_toArray, List.set_cons_zero, List.set_cons_succ]
      refine wpAnyH_take (i := 4) (v := .int .i64 step) rfl (by kernel_rfl) (by kernel_rfl) (by kernel_rfl) (fun _ _ _ h => h) (Or.inl ⟨by rfl, fun w' hS => by (obtain ⟨s0, s1, s2⟩ := hS; go_simp)⟩) hHeld ?_
      simp only [Act.put, List.getElem_toArray, List.getElem_cons_zero, List.getElem_cons_succ, List.setIfInBounds_toArray, List.set_cons_zero, List.set_cons_succ]
      refine wpAnyH_take (i := 6) (v := .pointer (some ⟨w.heap.size, 5, none⟩)) rfl (by kernel_rfl) (by kernel_rfl) (by kernel_rfl) (fun _ _ _ h => h) (Or.inl ⟨by rfl, fun w' hS => by go_simp⟩) hHeld ?_
      simp only [Act.put, List.getElem_toArray, List.getElem_cons_zero, List.getElem_cons_succ, List.setIfInBounds_toArray, List.set_cons_zero, List.set_cons_succ]
      refine wpAnyH_take (i := 7) (v := .int .i64 lim) rfl (by kernel_rfl) (by kernel_rfl) (by kernel_rfl) (fun _ _ _ h => h) (Or.inl ⟨by rfl, fun w' hS => by (obtain ⟨s0, s1, s2⟩ := hS; go_simp)⟩) hHeld ?_
      simp only [Act.put, List.getElem_toArray, List.getElem_cons_zero, List.getElem_cons_succ, List.setIfInBounds_toArray, List.set_cons_zero, List.set_cons_succ]
      refine wpAnyH_take (i := 8) (v := .pointer (some ⟨w.heap.size, 3, none⟩)) rfl (by kernel_rfl) (by kernel_rfl) (by kernel_rfl) (fun _ _ _ h => h) (Or.inl ⟨by rfl, fun w' hS => by go_simp⟩) hHeld ?_
      simp only [Act.put, List.getElem_toArray, List.getElem_cons_zero, List.getElem_cons_succ, List.setIfInBounds_toArray, List.set_cons_zero, List.set_cons_succ]
      refine wpAnyH_take (i := 9) (v := .int .i64 base) rfl (by kernel_rfl) (by kernel_rfl) (by kernel_rfl) (fun _ _ _ h => h) (Or.inl ⟨by rfl, fun w' hS => by (obtain ⟨s0, s1, s2⟩ := hS; go_simp)⟩) hHeld ?_
      simp only [Act.put, List.getElem_toArray, List.getElem_cons_zero, List.getElem_cons_succ, List.setIfInBounds_toArray, List.set_cons_zero, List.set_cons_succ]
      refine wpAnyH_take (i := 10) (v := .int .i64 (lim - base)) rfl (by kernel_rfl) (by kernel_rfl) (by kernel_rfl) (fun _ _ _ h => h) (Or.inl ⟨by rfl, fun w' hS => by go_simp⟩) hHeld ?_
      simp only [Act.put, List.getElem_toArray, List.getElem_cons_zero, List.getElem_cons_succ, List.setIfInBounds_toArray, List.set_cons_zero, List.set_cons_succ]
      refine wpAnyH_take (i := 11) (v := .pointer (some ⟨w.heap.size, 4, none⟩)) rfl (by kernel_rfl) (by kernel_rfl) (by kernel_rfl) (fun _ _ _ h => h) (Or.inl ⟨by rfl, fun w' hS => by go_simp⟩) hHeld ?_
      simp only [Act.put, List.getElem_toArray, List.getElem_cons_zero, List.getElem_cons_succ, List.setIfInBounds_toArray, List.set_cons_zero, List.set_cons_succ]
      refine wpAnyH_take (i := 12) (v := .int .i64 step) rfl (by kernel_rfl) (by kernel_rfl) (by kernel_rfl) (fun _ _ _ h => h) (Or.inl ⟨by rfl, fun w' hS => by (obtain ⟨s0, s1, s2⟩ := hS; go_simp)⟩) hHeld ?_
      simp only [Act.put, List.getElem_toArray, List.getElem_cons_zero, List.getElem_cons_succ, List.setIfInBounds_toArray, List.set_cons_zero, List.set_cons_succ]
      refine wpAnyH_take (i := 13) (v := .int .i64 (lim - base + step)) rfl (by kernel_rfl) (by kernel_rfl) (by kernel_rfl) (fun _ _ _ h => h) (Or.inl ⟨by rfl, fun w' hS => by go_simp⟩) hHeld ?_
      simp only [Act.put, List.getElem_toArray, List.getElem_cons_zero, List.getElem_cons_succ, List.setIfInBounds_toArray, List.set_cons_zero, List.set_cons_succ]
      refine wpAnyH_ready (rs := [2]) (by kernel_rfl) (by simp) ?_
      refine AllReadyH.cons rfl (fun K hK => ?_) AllReadyH.nil
      go_simp
      refine (HWr.out _ (Below.refl _ _).drew).mono ?_
      rintro e w2 ⟨rfl, rfl⟩
      refine hK.out _ _ ⟨cell_drew e3, cell_drew e4, cell_drew e5⟩ (fun hHeld => ?_)
      clear hK K
      refine wpAnyH_take (i := 5) (v := .int .i64 (x * step)) rfl (by kernel_rfl) (by kernel_rfl) (by kernel_rfl) (fun _ _ _ h => h) (Or.inl ⟨by rfl, fun w' hS => by go_simp⟩) hHeld ?_
      simp only [Act.put, List.getElem_toArray, List.getElem_cons_zero, List.getElem_cons_succ, List.setIfInBounds_toArray, List.set_cons_zero, List.set_cons_succ]
      refine wpAnyH_take (i := 14) (v := .bool true) rfl (by kernel_rfl) (by kernel_rfl) (by kernel_rfl) (fun _ _ _ h => h) (Or.inl ⟨by rfl, fun w' hS => by (go_simp <;> omega)⟩) hHeld ?_
      simp only [Act.put, List.getElem_toArray, List.getElem_cons_zero, List.getElem_cons_succ, List.setIfInBounds_toArray, List.set_cons_zero, List.set_cons_succ]
      refine wpAnyH_take (i := 15) (v := .bool true) rfl (by kernel_rfl) (by kernel_rfl) (by kernel_rfl) (fun _ _ _ h => h) (Or.inl ⟨by rfl, fun w' hS => by go_simp⟩) hHeld ?_
      simp only [Act.put, List.getElem_toArray, List.getElem_cons_zero, List.getElem_cons_succ, List.setIfInBounds_toArray, List.set_cons_zero, List.set_cons_succ]
      refine wpAnyH_done (by kernel_rfl) ?_ _
      clear hHeld
      go_wp2
      go_ret
      exact ⟨rfl, Hlw.out.drew⟩
theorem settles_any (n s inc base step lim q f : Int) (ga : Option Addr) (gn gcap : Nat) (zs : List Int) (hr : RdI w ga gn zs) (hgn : gn ≤ 17592186044416) (hn : n ≤ 9223372036854775807) : Calls Try.prog 4 #[.agg (gc n s inc base step lim q f ga gn gcap)] w fun e w' => e = .returned (.bool true) ∧ Below w.heap.size w w' := by
  cases hok : newOk n s inc base step lim with
  | false => exact settles_no n s inc base step lim q f ga gn gcap hok hn
  | true =>
    have hk := hok
    unfold newOk at hk
    simp only [Bool.and_eq_true] at hk
    obtain ⟨b1, b2, b3, b4, b5, b6⟩ := hk
    have a1 := of_decide_eq_true b1
    have a2 := of_decide_eq_true b2
    obtain ⟨k, rfl⟩ : ∃ k : Nat, n = k := ⟨n.toNat, by omega⟩
    obtain ⟨t, rfl⟩ : ∃ t : Nat, s = t := ⟨s.toNat, by omega⟩
    by_cases h1 : 2 ≤ k
    · exact settles_ok k t inc base step lim q f ga gn gcap zs hr hgn hok h1
    · obtain rfl : k = 1 := by omega
      exact settles_lone t inc base step lim q f ga gn gcap hok
end
end Go.Proofs.Ytcodpjblmeckkaa.Dt
