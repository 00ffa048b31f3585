import Derived.Test.YtfodkackfahldaaBth
namespace Go.Proofs.Ytfodkackfahldaa.Lo
open Go.RowKit
set_option linter.unusedVariables false
set_option linter.unusedSimpArgs false

theorem step_loadS {w : World} {ops : Array Oper} {o : Oper} {a : Act} {K : Act → World → Prop} {Q : Exit → Act → World → Prop} {E : Prop} (hgd : o.guard = none) (ty : TypeId) (x : Operand) (ho : o.op = .load ty x) {b off : Nat} {cs : List Value} (hx : a.eval x = .pointer (some ⟨b, off, none⟩)) (hc : w.rangeAt b off cs) {d : TypeDesc} (hu : Try.prog.underlying ty = some d) (hd : d.isRow = true) (hi : (Try.prog.info? ty).map (·.size) = some cs.length)
    (h : K (a.put o.dst (.agg cs.toArray)) w) : if Region.wanted o (yielded ops a.tmps) = true then Oper.wp Try.prog o a w K Q else E := by
  rw [if_pos (show Region.wanted o (yielded ops a.tmps) = true by simp [Region.wanted, hgd])]
  exact wp_load_mid ty x ho b off hx cs d hc hu hd hi h
theorem app_Bo {w : World} {ops : Array Oper} {rest : List Oper} {o : Oper} {a : Act} {Q : Exit → Act → World → Prop} (hgd : o.guard = none) (s x : Operand)
    (ho : o.op = .call { callee := .builtin .append, args := #[s, x], argTypes := #[83, 83] }) {B : Nat} {v : Value} {n : Nat} {xs : List Value} (hs : a.eval s = v) {w0 : World} (hown : w0.ownsRow B 4 1 v n xs) (y : Bool) (hw : w = w0.alloc (.cells #[.bool y] 4))
    (hx : a.eval x = .slice (some ⟨w0.heap.size, 0, none⟩) 1 1) (hn : n + 1 ≤ 1000000) (hbase : B ≤ w0.heap.size)
    (h : ∀ v' w', Hid (w'.ownsRow B 4 1 v' (n + 1) (xs ++ [.bool y])) → Hid (Mb.Kept w0 w' (fun k => v.ownBlock = some k)) → wpList Try.prog ops Q rest (a.put o.dst v') w') : wpList Try.prog ops Q (o :: rest) a w := by
  subst hw
  obtain ⟨i0, hi, hz0, hz1, hz2⟩ := info_parts (show (Try.prog.info? 4).map (fun i => (i.zero, i.size, i.bytes)) = some (some (.bool false), 1, 1) by kernel_rfl)
  have hb : Below w0.heap.size w0 (w0.alloc (.cells #[.bool y] 4)) := bsp _ _ _
  refine app_g hgd s x 83 ho B 4 i0 (.bool false) 1 1 Try.underlying83 hi hz0 hz1 hz2 rfl (by omega) v n xs hs (Mb.own_still hown hb) (some ⟨w0.heap.size, 0, none⟩) 1 1 [.bool y] hx (by simp) rfl ?_ (by intro u hu; obtain rfl := List.mem_singleton.1 hu; rfl) (by unfold maxLen; omega) (by omega) (Nat.le_trans hbase hb.size) ?_
  · intro ad he j u hu
    cases he
    rw [Addr.add_mid, Nat.zero_add, blk_cell (heap_new w0 #[.bool y] 4)]
    simpa using hu
  · intro v' w' h1 h2 _
    exact h v' w' h1 ((Mb.Kept.ofBelow hb (fun k => v.ownBlock = some k)).trans h2.out)
def slI (N : Nat) (f0 : Nat → Int) (es : List Em) (k : Nat) : Int := if alP (prK N f0 es k) N then DD N (prK N f0 es) k else 0
def slL (N : Nat) (f0 : Nat → Int) (es : List Em) (j : Nat) : List Int := (List.range j).map (slI N f0 es)
def fiL (N : Nat) (f0 : Nat → Int) (es : List Em) (j : Nat) : List Value := (List.range j).map (fun k => .bool (decide (alP (prK N f0 es k) N)))
theorem slL_len (N : Nat) (f0 : Nat → Int) (es : List Em) (j : Nat) : (slL N f0 es j).length = j := by simp [slL]
theorem slL_succ (N : Nat) (f0 : Nat → Int) (es : List Em) (j : Nat) : slL N f0 es (j + 1) = slL N f0 es j ++ [slI N f0 es j] := by simp [slL, List.range_succ]
theorem fiL_succ (N : Nat) (f0 : Nat → Int) (es : List Em) (j : Nat) : fiL N f0 es (j + 1) = fiL N f0 es j ++ [.bool (decide (alP (prK N f0 es j) N))] := by simp [fiL, List.range_succ]
theorem fiL_at (N : Nat) (f0 : Nat → Int) (es : List Em) {j k : Nat} (h : k < j) : (fiL N f0 es j)[k]? = some (.bool (decide (alP (prK N f0 es k) N))) := by simp [fiL, h]
theorem rowB {w : World} {B n c : Nat} {a : Option Addr} {l : List Value} (h : w.ownsRow B 4 1 (.slice a n c) n l) {j : Nat} {v : Value} (hv : l[j]? = some v) : ∃ fb, a = some ⟨fb, 0, none⟩ ∧ w.cell? ⟨fb, j, none⟩ = some v := by
  have hj := (List.getElem?_eq_some_iff.1 hv).1
  have hl := h.1
  rcases h.2 with ⟨e, e0⟩ | ⟨g, cap, cur, e, _, hh, _, _, _, ht⟩
  · omega
  · simp only [Value.slice.injEq] at e
    refine ⟨g, e.1, ?_⟩
    rw [blk_cell hh]
    rw [← ht, List.getElem?_take, if_pos (by omega)] at hv
    simpa using hv
def wiQ (N : Nat) (f0 : Nat → Int) (es : List Em) (en : Nat) : Int × Int × Bool := if alP (prK N f0 es en) N then (prK N f0 es en 290, prK N f0 es en 291, true) else (0, 0, false)
set_option maxRecDepth 100000 in
set_option maxHeartbeats 8000000 in
theorem rwithin_any (N : Nat) (wi ba st ca ro fl : Int) (va : Option Addr) (vn vc : Nat) (ea : Option Addr) (en ec : Nat) (es : List Em) (ao : Option Addr) (n c : Nat) (xs : List Int) (w : World) (n1 : 1 ≤ N) (n2 : N ≤ 16) (hev : EvR w ea en es) (hen : en ≤ 4000) (hr : Ri w ao n c xs) (hn : n ≤ 140737488355328) (hx : ∀ x ∈ xs, 0 ≤ x ∧ x < N) : Calls Try.prog 38 #[.agg #[.int .i64 (N : Int), .int .i64 wi, .int .i64 ba, .int .i64 st, .int .i64 ca, .int .i64 ro, .int .i64 fl, .slice va vn vc, .slice ea en ec], .slice ao n c, .int .i64 ba] w fun r w' => r = .returned (.tuple #[.int .i64 (wiQ N (inF (wtF N ba) xs) es en).1, .int .i64 (wiQ N (inF (wtF N ba) xs) es en).2.1, .bool (wiQ N (inF (wtF N ba) xs) es en).2.2]) ∧ Below w.heap.size w w' := by
  have HB : Hid (Below w.heap.size w (w.alloc (.cells #[.int .i64 (N : Int), .int .i64 wi, .int .i64 ba, .int .i64 st, .int .i64 ca, .int .i64 ro, .int .i64 fl, .slice va vn vc, .slice ea en ec] 27))) := bsp _ _ _
  have hk := heap_new w #[.int .i64 (N : Int), .int .i64 wi, .int .i64 ba, .int .i64 st, .int .i64 ca, .int .i64 ro, .int .i64 fl, .slice va vn vc, .slice ea en ec] 27
  have hWs : w.heap.size < (w.alloc (.cells #[.int .i64 (N : Int), .int .i64 wi, .int .i64 ba, .int .i64 st, .int .i64 ca, .int .i64 ro, .int .i64 fl, .slice va vn vc, .slice ea en ec] 27)).heap.size := by simp
  generalize hW : w.alloc (.cells #[.int .i64 (N : Int), .int .i64 wi, .int .i64 ba, .int .i64 st, .int .i64 ca, .int .i64 ro, .int .i64 fl, .slice va vn vc, .slice ea en ec] 27) = W at *
  have c0 : W.cell? ⟨w.heap.size, 0, none⟩ = some (.int .i64 (N : Int)) := blk_cell hk 0
  have HC8 : Hid (W.cell? ⟨w.heap.size, 8, none⟩ = some (.slice ea en ec)) := (show _ = _ from blk_cell hk 8)
  have HEv : Hid (EvR W ea en es) := hev.on HB.out
  have HRi : Hid (Ri W ao n c xs) := hr.below HB.out
  have HX : Hid (∀ x ∈ xs, 0 ≤ x ∧ x < N) := hx
  have hx16 : ∀ x ∈ xs, 0 ≤ x ∧ x < 16 := fun x h => by have := hx x h; omega
  have hI : Iv N (inF (wtF N ba) xs) := Iv.inF _ (Iv.wt N ba) (fun p hp => (hx16 p hp).1)
  have HSim : Hid (∀ j, Sim N (prK N (inF (wtF N ba) xs) es j) (stt N es j).1 (stt N es j).2) := (show ∀ j, _ from stt_sim n2 hI (Sim.begun N n2 ba xs hx16))
  have HIn : Hid (∀ j, (∀ p, p < N → prK N (inF (wtF N ba) xs) es j (273 + p) = if (p : Int) ∈ xs then 1 else 0) ∧ prK N (inF (wtF N ba) xs) es j 289 = ba) := (show ∀ j, _ from fun j => ⟨fun p hp => by rw [prK_hh hI n2 es j _ (by omega) (by omega), f0_in hx16 (by omega)], by rw [prK_hh hI n2 es j _ (by omega) (by omega), f0_89 hx16]⟩)
  have HYes : Hid (∀ j, alP (prK N (inF (wtF N ba) xs) es j) N → _) := (show ∀ j, _ from pr_yes (es := es) n2 hI (f0_90 hx16))
  have HBr : Hid (∀ j (e : Em), brB xs e.k e.a = diB (prK N (inF (wtF N ba) xs) es j) e.k e.a) := (show ∀ j (e : Em), _ from fun j e => by
    unfold brB diB
    by_cases h5 : k5 e.k
    · rw [if_neg (by unfold k5 at h5; rw [inR_iff]; omega), if_pos h5, if_pos h5, (hI.pr n2 es j).n]
      by_cases hm : e.a ∈ xs
      · have hr2 := hx _ hm
        rw [decide_eq_true hm, inR_iff.2 (show 0 ≤ e.a ∧ e.a ≤ (N : Int) - 1 by omega), prK_hh hI n2 es j _ (by omega) (by omega), f0_in hx16 (by omega), if_pos (by rw [show ((e.a.toNat : Nat) : Int) = e.a by omega]; exact hm)]
        rfl
      · rw [decide_eq_false hm]
        by_cases hr2 : 0 ≤ e.a ∧ e.a < (N : Int)
        · rw [prK_hh hI n2 es j _ (by omega) (by omega), f0_in hx16 (by omega), if_neg (by rw [show ((e.a.toNat : Nat) : Int) = e.a by omega]; exact hm)]
          simp
        · rw [show inR e.a 0 ((N : Int) - 1) = false from by cases hc : inR e.a 0 ((N : Int) - 1); rfl; exact absurd (inR_iff.1 hc) (by omega)]
          rfl
    · rw [if_neg h5, if_neg h5]
      cases inR e.k 12 17 <;> rfl)
  generalize hf0 : inF (wtF N ba) xs = f0 at *
  obtain ⟨⟨qt, qd, qk⟩, hq⟩ : ∃ q, wiQ N f0 es en = q := ⟨_, rfl⟩
  rw [hq]
  have HQ : Hid (wiQ N f0 es en = (qt, qd, qk)) := hq
  have HBg : Hid (Calls Try.prog 52 #[.int .i64 N] W fun e w' => e = .returned (.agg (rvl (bgB N) (bgS N (N * 16))).toArray) ∧ Below W.heap.size W w') := begun_any N W n2
  clear hk hev hr hx hx16 hI hf0 hq
  go_enter Try.func38, Try.ntmps38
  go_wp2_with fail
  refine HBg.out.mono ?_
  rintro r1 w1 ⟨rfl, hb1⟩
  go_wp2_with (first | (refine wl_allocZ rfl 87 rfl zSt ?_) | fail)
  intro W2 k2 b2 s2
  go_wp2_with (first | (refine Ln.at_store 87 _ _ rfl ?_; refine wl_storeZ rfl 87 _ _ rfl rfl rfl k2 (by rw [rvl_len]; exact iSt) (by rw [rvl_len]; simp [rvl]) (rvl_one _ _) ?_) | fail)
  intro W3 k3 kk3
  have hzx : W.heap.size ≤ w1.heap.size := hb1.size
  have HS0 : Hid (Sb W3 w1.heap.size (stt N es (0 - 1)).1 (stt N es (0 - 1)).2) := k3
  have HB0 : Hid (Below W.heap.size W W3) := (show Below _ _ _ from (hb1.trans (b2.mono hzx)).trans (kn kk3 hzx (by have := b2.size; omega)))
  clear k2 b2 s2 k3 kk3 hb1 HBg c0
  generalize w1.heap.size = xb at *
  go_wp2_with fail
  go_loopw [9, 10, 12] (fun v9 v10 x wr => ∃ (j : Nat) (a9 : Option Addr) (c9 : Nat) (a10 : Option Addr) (c10 : Nat), j ≤ en + 1 ∧ x = .int .i64 j ∧ v9 = .slice a9 j c9 ∧ v10 = .slice a10 j c10 ∧ Hid (Sb wr xb (stt N es (j - 1)).1 (stt N es (j - 1)).2) ∧ Hid (wr.ownsRow W.heap.size 4 1 (.slice a9 j c9) j (fiL N f0 es j)) ∧ Hid (OwI wr W.heap.size (.slice a10 j c10) (slL N f0 es j)) ∧ Hid (Below W.heap.size W wr)) (fun _ _ x _ => en + 1 - (intOf x).toNat)
  case atStart => exact ⟨0, none, 0, none, 0, Nat.zero_le _, rfl, rfl, rfl, HS0, (show World.ownsRow _ _ _ _ _ _ _  from ow_nil _ _ _ _), (show OwI _ _ _ _ from ow_nil _ _ _ _), HB0⟩
  case round =>
    obtain ⟨j, a9, c9, a10, c10, hj, rfl, rfl, rfl, hSb, h9, h10, hB⟩ := hrel
    have d8 := belowB_at hB.out hWs HC8.out
    by_cases hjn : j ≤ en
    · have j3 : (j : Int) ≤ (en : Int) := by omega
      by_cases hj0 : j = 0
      · subst hj0
        have j4 : ¬ (0 : Int) < ((0 : Nat) : Int) := by omega
        clear HYes HBr HQ
        have hsj : Sim N (prK N f0 es 0) (stt N es 0).1 (stt N es 0).2 := HSim.out 0
        have hal : alR (stt N es 0).1 (stt N es 0).2 N xs ba = if alP (prK N f0 es 0) N then (true, max 1 (lgA (prK N f0 es 0) N N)) else (false, 0) := alone_eq hsj n2 HX.out (HIn.out 0).1 (HIn.out 0).2
        have hra := ralone_any (stt N es 0).1 (stt N es 0).2 N ao n c xs ba wr hsj.sn n2 (HRi.out.below hB.out) hn HX.out
        rw [hal] at hra
        have HAl : Hid (Calls Try.prog 54 #[.agg (rvl (stt N es 0).1 (stt N es 0).2).toArray, .slice ao n c, .int .i64 ba] wr fun e w' => e = .returned (.tuple #[.bool (decide (alP (prK N f0 es 0) N)), .int .i64 (slI N f0 es 0)]) ∧ Below wr.heap.size wr w') := (show Calls _ _ _ _ _  from by
          refine hra.mono fun e w' h => ⟨?_, h.2⟩
          rw [h.1]
          unfold slI DD
          by_cases hc : alP (prK N f0 es 0) N
          · simp [hc]
          · simp [hc])
        clear hsj hal hra
        generalize hokj : decide (alP (prK N f0 es 0) N) = okj at *
        generalize hdj : slI N f0 es 0 = dj at *
        have HOkj : Hid (decide (alP (prK N f0 es 0) N) = okj ∧ slI N f0 es 0 = dj) := (show _ ∧ _ from ⟨hokj, hdj⟩)
        clear hokj hdj
        have HKR : Hid (wr.rangeAt xb 0 (rvl (stt N es 0).1 (stt N es 0).2)) := hSb.out.rng
        go_wp2_with (first | (refine Ln.at_load 87 (.tmp 11) rfl ?_; refine Ln.load_mid 87 (.tmp 11) HKR.out _ Try.underlying87 rfl (by rw [rvl_len]; exact iSt) rfl rfl rfl ?_) | fail)
        refine HAl.out.mono ?_
        rintro r6 y1 ⟨rfl, hy1⟩
        have HSy : Hid (Sb y1 xb (stt N es 0).1 (stt N es 0).2) := (show Sb _ _ _ _ from hSb.out.on hy1)
        have H9y : Hid (y1.ownsRow W.heap.size 4 1 (.slice a9 0 c9) 0 (fiL N f0 es 0)) := (show World.ownsRow _ _ _ _ _ _ _  from Mb.own_still h9.out hy1)
        have H10y : Hid (OwI y1 W.heap.size (.slice a10 0 c10) (slL N f0 es 0)) := (show OwI _ _ _ _ from Mb.own_still h10.out hy1)
        have HBy : Hid (Below W.heap.size W y1) := hB.out.trans (hy1.mono hB.out.size)
        have hzy : W.heap.size ≤ y1.heap.size := HBy.out.size
        clear hy1 HAl HKR
        go_wp2_with (first | (at_builtin; refine app_Bo rfl _ _ rfl rfl H9y.out okj rfl rfl (by omega) hzy ?_) | fail)
        intro v9 y2 o9 kk9
        obtain ⟨a9n, c9n, hv9⟩ := ow_shape o9.out
        subst hv9
        have HSy2 : Hid (Sb y2 xb (stt N es 0).1 (stt N es 0).2) := (show Sb _ _ _ _ from blk_app HSy.out H9y.out (by decide) kk9.out)
        have H10z : Hid (OwI y2 W.heap.size (.slice a10 0 c10) (slL N f0 es 0)) := (show OwI _ _ _ _ from ow_app H10y.out H9y.out (by decide) kk9.out)
        have H9z : Hid (y2.ownsRow W.heap.size 4 1 (.slice a9n (0 + 1) c9n) (0 + 1) (fiL N f0 es (0 + 1))) := (show World.ownsRow _ _ _ _ _ _ _  from by rw [fiL_succ, HOkj.out.1]; exact o9.out)
        have HBz : Hid (Below W.heap.size W y2) := (show Below _ _ _ from HBy.out.trans (kk9.out.below hzy (fun q hq e => by have := (World.ownsRow.lt H9y.out q e).1; omega)))
        have hzz : W.heap.size ≤ y2.heap.size := HBz.out.size
        clear o9 kk9 HSy H9y H10y HBy hzy
        go_wp2_with (first | (at_builtin; refine app_I1 rfl _ _ rfl rfl H10z.out dj rfl rfl (by rw [slL_len]; omega) hzz ?_) | fail)
        intro v10 y3 o10 kk10 _
        have o10' : OwI y3 W.heap.size v10 (slL N f0 es (0 + 1)) := by rw [slL_succ, HOkj.out.2]; exact o10.out
        obtain ⟨a10n, c10n, hv10⟩ := ow_shape o10'
        rw [slL_len] at hv10
        subst hv10
        have HSf : Hid (Sb y3 xb (stt N es (0 + 1 - 1)).1 (stt N es (0 + 1 - 1)).2) := (show Sb _ _ _ _ from blk_app HSy2.out H10z.out (by decide) kk10.out)
        have H9f : Hid (y3.ownsRow W.heap.size 4 1 (.slice a9n (0 + 1) c9n) (0 + 1) (fiL N f0 es (0 + 1))) := (show World.ownsRow _ _ _ _ _ _ _  from ow_app H9z.out H10z.out (by decide) kk10.out)
        have H10f : Hid (OwI y3 W.heap.size (.slice a10n (0 + 1) c10n) (slL N f0 es (0 + 1))) := o10'
        have HBf : Hid (Below W.heap.size W y3) := (show Below _ _ _ from HBz.out.trans (kk10.out.below hzz (fun q hq e => by have := (World.ownsRow.lt H10z.out q e).1; omega)))
        clear o10 kk10 o10' HSy2 H9z H10z HBz hzz HOkj
        go_wp2_with fail
        go_roundw
        case rel => exact ⟨0 + 1, a9n, c9n, a10n, c10n, by omega, by go_num, rfl, rfl, HSf, H9f, H10f, HBf⟩
        case measure => first | (simp [intOf]; done) | (simp [intOf]; omega)
      · obtain ⟨k, rfl⟩ : ∃ k, j = k + 1 := ⟨j - 1, by omega⟩
        have j4 : (0 : Int) < ((k + 1 : Nat) : Int) := by omega
        have k1 : (0 : Int) ≤ (k : Int) := Int.natCast_nonneg _
        have k3 : (k : Int) < (en : Int) := by omega
        rcases HEv.out.row with h0 | ⟨eb, eo, rfl, hrow⟩
        · omega
        have hebW : eb < W.heap.size := World.block_lt_of_cell? W _ (hrow k (by omega) 0 _ rfl)
        have hsdk := HEv.out.sd k (by omega)
        have hEV : wr.rangeAt eb (eo + k * 13) (es.getD k em0).cs := belowB_range hB.out hebW (hrow k (by omega))
        have hstep : stt N es (k + 1) = (aftB (stt N es k).1 (stt N es k).2 N (es.getD k em0), aftS (stt N es k).2 (es.getD k em0)) := rfl
        have HRe0 := hsdk.1.below hB.out
        have HsN : Hid ((stt N es k).2 0 = (N : Int)) := (show _ = _ from (HSim.out k).sn)
        rw [show k + 1 - 1 = k from rfl] at hSb
        obtain ⟨sB, hsB⟩ : ∃ x, (stt N es k).1 = x := ⟨_, rfl⟩
        obtain ⟨sS, hsS⟩ : ∃ x, (stt N es k).2 = x := ⟨_, rfl⟩
        obtain ⟨e, he⟩ : ∃ x, es.getD k em0 = x := ⟨_, rfl⟩
        rw [hsB, hsS] at hSb
        rw [hsS] at HsN
        rw [hsB, hsS, he] at hstep
        rw [he] at hEV HRe0 hsdk
        have Hst : Hid (stt N es (k + 1) = (aftB sB sS N e, aftS sS e)) := hstep
        have HEV : Hid (wr.rangeAt eb (eo + k * 13) e.cs) := hEV
        have HRe : Hid (Ri wr e.sa e.sn e.sc e.xs) := HRe0
        have HSl : Hid (e.sn ≤ 140737488355328) := (show _ ≤ _ from hsdk.2)
        have hxbW : W.heap.size ≤ xb := hzx
        have hneb : ¬ eb = xb := by omega
        have hnb8 : ¬ w.heap.size = xb := by omega
        clear hrow hsdk hEV hstep HRe0 hsB hsS he HYes HBr HQ
        go_wp2_with fail
        refine wp_region_held_drew (S := (fun w' => w'.cell? ⟨w.heap.size, 8, none⟩ = some (.slice (some ⟨eb, eo, none⟩) en ec) ∧ w'.rangeAt eb (eo + k * 13) e.cs)) (by kernel_rfl) ⟨(below_at (drew_bel _) d8), (range_on HEV.out (drew_bel _))⟩ (fun hHeld => ?_)
        simp only [Act.put, List.size_toArray, List.length_cons, List.length_nil, Nat.zero_add]
        refine takeD (i := 1) (d := 32) (v := .pointer (some ⟨w.heap.size, 8, none⟩)) rfl (by kernel_rfl) (by kernel_rfl) (by kernel_rfl) (by kernel_rfl) (fun _ _ _ h => h) (Or.inl ⟨by rfl, fun w' hS => by go_simp⟩) hHeld ?_
        simp only [Act.put, List.setIfInBounds_toArray, List.set_cons_zero, List.set_cons_succ]
        refine takeD (i := 2) (d := 33) (v := .slice (some ⟨eb, eo, none⟩) en ec) rfl (by kernel_rfl) (by kernel_rfl) (by kernel_rfl) (by kernel_rfl) (fun _ _ _ h => h) (Or.inl ⟨by rfl, fun w' hS => by (obtain ⟨s0, s1⟩ := hS; go_simp)⟩) hHeld ?_
        simp only [Act.put, List.setIfInBounds_toArray, List.set_cons_zero, List.set_cons_succ]
        refine takeD (i := 3) (d := 34) (v := .int .i64 ((k + 1 : Nat) : Int)) rfl (by kernel_rfl) (by kernel_rfl) (by kernel_rfl) (by kernel_rfl) (fun _ _ _ h => h) (Or.inl ⟨by rfl, fun w' hS => by go_simp⟩) hHeld ?_
        simp only [Act.put, List.setIfInBounds_toArray, List.set_cons_zero, List.set_cons_succ]
        refine takeD (i := 4) (d := 35) (v := .int .i64 (k : Int)) rfl (by kernel_rfl) (by kernel_rfl) (by kernel_rfl) (by kernel_rfl) (fun _ _ _ h => h) (Or.inl ⟨by rfl, fun w' hS => by (go_simp <;> (first | exact Mb.wrap_id (by omega) (by omega) | omega))⟩) hHeld ?_
        simp only [Act.put, List.setIfInBounds_toArray, List.set_cons_zero, List.set_cons_succ]
        refine takeD (i := 5) (d := 36) (v := .pointer (some ⟨eb, eo + k * 13, none⟩)) rfl (by kernel_rfl) (by kernel_rfl) (by kernel_rfl) (by kernel_rfl) (fun _ _ _ h => h) (Or.inl ⟨by rfl, fun w' hS => by go_simp⟩) hHeld ?_
        simp only [Act.put, List.setIfInBounds_toArray, List.set_cons_zero, List.set_cons_succ]
        refine takeD (i := 6) (d := 37) (v := .agg (e.cs).toArray) rfl (by kernel_rfl) (by kernel_rfl) (by kernel_rfl) (by kernel_rfl) (fun _ _ _ h => h) (Or.inl ⟨by rfl, fun w' hS => by (obtain ⟨s0, s1⟩ := hS; exact run_loadop 36 _ rfl rfl s1 Try.underlying36 rfl (iEv e))⟩) hHeld ?_
        simp only [Act.put, List.setIfInBounds_toArray, List.set_cons_zero, List.set_cons_succ]
        have hbD1 : Below wr.heap.size wr wr.drew := drew_bel _
        have q0 := below_at hbD1 d8
        have hSD : Sb wr.drew xb sB sS := hSb.out.on hbD1
        have xtr : wr.drew.rangeAt eb (eo + k * 13) e.cs := range_on HEV.out hbD1
        have h9D := Mb.own_still h9.out hbD1
        have h10D := Mb.own_still h10.out hbD1
        have hBD : Below W.heap.size W wr.drew := hB.out.trans (hbD1.mono hB.out.size)
        generalize wr.drew = D1 at *
        have HSD : Hid (Sb D1 xb sB sS) := hSD
        refine wpAnyH_ready (rs := [0]) (by kernel_rfl) (by simp) ?_
        refine AllReadyH.cons rfl (fun K hK => ?_) AllReadyH.nil
        refine step_loadS rfl 87 (.tmp 11) rfl rfl HSD.out.rng Try.underlying87 rfl (by rw [rvl_len]; exact iSt) ?_
        refine hK.out _ _ ⟨q0, xtr⟩ (fun hHeld => ?_)
        clear hK K
        refine wpAnyH_ready (rs := [7]) (by kernel_rfl) (by simp) ?_
        refine AllReadyH.cons rfl (fun K hK => ?_) AllReadyH.nil
        go_simp
        refine (after_any sB sS N e _ HsN.out n1 n2 (HRe.out.below hbD1) HSl.out).mono ?_
        rintro r5 w5 ⟨rfl, hb5⟩
        have xtr := range_on xtr hb5
        refine hK.out _ _ ⟨(below_at hb5 q0), xtr⟩ (fun hHeld => ?_)
        clear hK K
        refine wpAnyH_ready (rs := [8]) (by kernel_rfl) (by simp) ?_
        refine AllReadyH.cons rfl (fun K hK => ?_) AllReadyH.nil
        have kX : Mb.Kept w5 (w5.setCells xb 0 (rvl (aftB sB sS N e) (aftS sS e))) (fun q => q = xb) := Mb.ksets (P := fun q => q = xb) rfl _ _ _
        have xtr : (w5.setCells xb 0 (rvl (aftB sB sS N e) (aftS sS e))).rangeAt eb (eo + k * 13) e.cs := fun jj vv hv => Ln.kept_cell kX hneb (xtr jj vv hv)
        refine Ln.step_storeL rfl 87 (.tmp 11) (.tmp 38) rfl (L := (rvl (aftB sB sS N e) (aftS sS e))) rfl rfl (Ln.blk_there (HSD.out.on hb5) (by rw [rvl_len]; simp [rvl])) (by rw [rvl_len]; exact iSt) (rvl_one _ _) ?_
        refine hK.out _ _ ⟨(Ln.kept_cell kX hnb8 (below_at hb5 q0)), xtr⟩ (fun hHeld => ?_)
        clear hK K
        refine wpAnyH_done (by kernel_rfl) ?_ _
        clear hHeld
        have hXS : Sb (w5.setCells xb 0 (rvl (aftB sB sS N e) (aftS sS e))) xb (aftB sB sS N e) (aftS sS e) := Ln.sets_whole (HSD.out.on hb5) (by rw [rvl_len]; simp [rvl])
        have h9X : Hid ((w5.setCells xb 0 (rvl (aftB sB sS N e) (aftS sS e))).ownsRow W.heap.size 4 1 (.slice a9 (k + 1) c9) (k + 1) (fiL N f0 es (k + 1))) := (show World.ownsRow _ _ _ _ _ _ _  from ow_ne (Mb.own_still h9D hb5) (HSD.out.on hb5) (by decide) kX)
        have h10X : Hid (OwI (w5.setCells xb 0 (rvl (aftB sB sS N e) (aftS sS e))) W.heap.size (.slice a10 (k + 1) c10) (slL N f0 es (k + 1))) := (show OwI _ _ _ _ from ow_ne (Mb.own_still h10D hb5) (HSD.out.on hb5) (by decide) kX)
        have hBX : Hid (Below W.heap.size W (w5.setCells xb 0 (rvl (aftB sB sS N e) (aftS sS e)))) := (show Below _ _ _ from (hBD.trans (hb5.mono hBD.size)).trans (kn kX hxbW (by have := hBD.size; have := hb5.size; omega)))
        have HSX : Hid (Sb (w5.setCells xb 0 (rvl (aftB sB sS N e) (aftS sS e))) xb (stt N es (k + 1)).1 (stt N es (k + 1)).2) := (show Sb _ _ _ _ from by rw [Hst.out]; exact hXS)
        clear hXS kX xtr hb5 hbD1 h9D h10D hBD HSD hSb h9 h10 hB q0 d8 HEV HRe HSl Hst HsN
        generalize w5.setCells xb 0 (rvl (aftB sB sS N e) (aftS sS e)) = X1 at *
        have hsj : Sim N (prK N f0 es (k + 1)) (stt N es (k + 1)).1 (stt N es (k + 1)).2 := HSim.out (k + 1)
        have hal : alR (stt N es (k + 1)).1 (stt N es (k + 1)).2 N xs ba = if alP (prK N f0 es (k + 1)) N then (true, max 1 (lgA (prK N f0 es (k + 1)) N N)) else (false, 0) := alone_eq hsj n2 HX.out (HIn.out (k + 1)).1 (HIn.out (k + 1)).2
        have hra := ralone_any (stt N es (k + 1)).1 (stt N es (k + 1)).2 N ao n c xs ba X1 hsj.sn n2 (HRi.out.below hBX.out) hn HX.out
        rw [hal] at hra
        have HAl : Hid (Calls Try.prog 54 #[.agg (rvl (stt N es (k + 1)).1 (stt N es (k + 1)).2).toArray, .slice ao n c, .int .i64 ba] X1 fun e w' => e = .returned (.tuple #[.bool (decide (alP (prK N f0 es (k + 1)) N)), .int .i64 (slI N f0 es (k + 1))]) ∧ Below X1.heap.size X1 w') := (show Calls _ _ _ _ _  from by
          refine hra.mono fun e w' h => ⟨?_, h.2⟩
          rw [h.1]
          unfold slI DD
          by_cases hc : alP (prK N f0 es (k + 1)) N
          · simp [hc]
          · simp [hc])
        clear hsj hal hra
        generalize hokj : decide (alP (prK N f0 es (k + 1)) N) = okj at *
        generalize hdj : slI N f0 es (k + 1) = dj at *
        have HOkj : Hid (decide (alP (prK N f0 es (k + 1)) N) = okj ∧ slI N f0 es (k + 1) = dj) := (show _ ∧ _ from ⟨hokj, hdj⟩)
        clear hokj hdj
        have HKR : Hid (X1.rangeAt xb 0 (rvl (stt N es (k + 1)).1 (stt N es (k + 1)).2)) := HSX.out.rng
        go_wp2_with (first | (refine Ln.at_load 87 (.tmp 11) rfl ?_; refine Ln.load_mid 87 (.tmp 11) HKR.out _ Try.underlying87 rfl (by rw [rvl_len]; exact iSt) rfl rfl rfl ?_) | fail)
        refine HAl.out.mono ?_
        rintro r6 y1 ⟨rfl, hy1⟩
        have HSy : Hid (Sb y1 xb (stt N es (k + 1)).1 (stt N es (k + 1)).2) := (show Sb _ _ _ _ from HSX.out.on hy1)
        have H9y : Hid (y1.ownsRow W.heap.size 4 1 (.slice a9 (k + 1) c9) (k + 1) (fiL N f0 es (k + 1))) := (show World.ownsRow _ _ _ _ _ _ _  from Mb.own_still h9X.out hy1)
        have H10y : Hid (OwI y1 W.heap.size (.slice a10 (k + 1) c10) (slL N f0 es (k + 1))) := (show OwI _ _ _ _ from Mb.own_still h10X.out hy1)
        have HBy : Hid (Below W.heap.size W y1) := hBX.out.trans (hy1.mono hBX.out.size)
        have hzy : W.heap.size ≤ y1.heap.size := HBy.out.size
        clear hy1 HAl HKR
        go_wp2_with (first | (at_builtin; refine app_Bo rfl _ _ rfl rfl H9y.out okj rfl rfl (by omega) hzy ?_) | fail)
        intro v9 y2 o9 kk9
        obtain ⟨a9n, c9n, hv9⟩ := ow_shape o9.out
        subst hv9
        have HSy2 : Hid (Sb y2 xb (stt N es (k + 1)).1 (stt N es (k + 1)).2) := (show Sb _ _ _ _ from blk_app HSy.out H9y.out (by decide) kk9.out)
        have H10z : Hid (OwI y2 W.heap.size (.slice a10 (k + 1) c10) (slL N f0 es (k + 1))) := (show OwI _ _ _ _ from ow_app H10y.out H9y.out (by decide) kk9.out)
        have H9z : Hid (y2.ownsRow W.heap.size 4 1 (.slice a9n ((k + 1) + 1) c9n) ((k + 1) + 1) (fiL N f0 es ((k + 1) + 1))) := (show World.ownsRow _ _ _ _ _ _ _  from by rw [fiL_succ, HOkj.out.1]; exact o9.out)
        have HBz : Hid (Below W.heap.size W y2) := (show Below _ _ _ from HBy.out.trans (kk9.out.below hzy (fun q hq e => by have := (World.ownsRow.lt H9y.out q e).1; omega)))
        have hzz : W.heap.size ≤ y2.heap.size := HBz.out.size
        clear o9 kk9 HSy H9y H10y HBy hzy
        go_wp2_with (first | (at_builtin; refine app_I1 rfl _ _ rfl rfl H10z.out dj rfl rfl (by rw [slL_len]; omega) hzz ?_) | fail)
        intro v10 y3 o10 kk10 _
        have o10' : OwI y3 W.heap.size v10 (slL N f0 es ((k + 1) + 1)) := by rw [slL_succ, HOkj.out.2]; exact o10.out
        obtain ⟨a10n, c10n, hv10⟩ := ow_shape o10'
        rw [slL_len] at hv10
        subst hv10
        have HSf : Hid (Sb y3 xb (stt N es ((k + 1) + 1 - 1)).1 (stt N es ((k + 1) + 1 - 1)).2) := (show Sb _ _ _ _ from blk_app HSy2.out H10z.out (by decide) kk10.out)
        have H9f : Hid (y3.ownsRow W.heap.size 4 1 (.slice a9n ((k + 1) + 1) c9n) ((k + 1) + 1) (fiL N f0 es ((k + 1) + 1))) := (show World.ownsRow _ _ _ _ _ _ _  from ow_app H9z.out H10z.out (by decide) kk10.out)
        have H10f : Hid (OwI y3 W.heap.size (.slice a10n ((k + 1) + 1) c10n) (slL N f0 es ((k + 1) + 1))) := o10'
        have HBf : Hid (Below W.heap.size W y3) := (show Below _ _ _ from HBz.out.trans (kk10.out.below hzz (fun q hq e => by have := (World.ownsRow.lt H10z.out q e).1; omega)))
        clear o10 kk10 o10' HSy2 H9z H10z HBz hzz HOkj
        go_wp2_with fail
        go_roundw
        case rel => exact ⟨(k + 1) + 1, a9n, c9n, a10n, c10n, by omega, by go_num, rfl, rfl, HSf, H9f, H10f, HBf⟩
        case measure => first | (simp [intOf]; done) | (simp [intOf]; omega)
    · obtain rfl : j = en + 1 := by omega
      have j3 : ¬ ((en + 1 : Nat) : Int) ≤ (en : Int) := by omega
      obtain ⟨fb, rfl, hfc⟩ := rowB h9.out (fiL_at N f0 es (j := en + 1) (k := en) (by omega))
      have HF9 : Hid (∀ k, k ≤ en → wr.cell? ⟨fb, k, none⟩ = some (.bool (decide (alP (prK N f0 es k) N)))) := (show ∀ k, _ from fun k hk => by
        obtain ⟨fb', e', hc⟩ := rowB h9.out (fiL_at N f0 es (j := en + 1) (k := k) (by omega))
        cases e'
        exact hc)
      have hsl : ∃ gb, a10 = some ⟨gb, 0, none⟩ := by
        rcases h10.out.2 with ⟨e, e0⟩ | ⟨g, cap, cur, e, _⟩
        · rw [slL_len] at e0; omega
        · simp only [Value.slice.injEq] at e; exact ⟨g, e.1⟩
      obtain ⟨gb, rfl⟩ := hsl
      have HF10 : Hid (∀ k, k ≤ en → wr.cell? ⟨gb, k, none⟩ = some (.int .i64 (slI N f0 es k))) := (show ∀ k, _ from fun k hk => by
        rcases h10.out.ri.2.2 with h0 | ⟨b', o', e', hc⟩
        · omega
        · cases e'
          have := hc k (by omega)
          rw [Nat.zero_add] at this
          rw [this]
          simp [slL, List.getD, show k < en + 1 by omega])
      have f0c := HF9.out en (Nat.le_refl _)
      have g0c := HF10.out en (Nat.le_refl _)
      have n1i : (0 : Int) ≤ (en : Int) := Int.natCast_nonneg _
      have n2i : (en : Int) < ((en + 1 : Nat) : Int) := by omega
      by_cases hfin : alP (prK N f0 es en) N
      case neg =>
        rw [decide_eq_false hfin] at f0c
        have hq2 := HQ.out
        unfold wiQ at hq2
        rw [if_neg hfin] at hq2
        cases hq2
        have HBX : Hid (Below w.heap.size w wr) := bst HB.out hB.out
        clear HYes HBr HQ HF9 HF10 h9 h10 hSb hfc g0c
        go_wp2_with fail
        (try simp only [Exit.inBlock, Exit.then])
        refine bodyPost_ret (results_tmp3 rfl _ _ _) rfl ?_
        exact ⟨rfl, HBX.out⟩
      rw [decide_eq_true hfin] at f0c
      have hy0 := HYes.out en hfin
      have hsi : slI N f0 es en = DD N (prK N f0 es) en := by unfold slI; rw [if_pos hfin]
      rw [hsi] at g0c
      have hq2 := HQ.out
      unfold wiQ at hq2
      rw [if_pos hfin] at hq2
      obtain ⟨hqt, hqd, hqk⟩ : prK N f0 es en 290 = qt ∧ prK N f0 es en 291 = qd ∧ true = qk := by simpa [Prod.mk.injEq] using hq2
      subst hqk
      have HI1 : Hid (alP (prK N f0 es en) N ∧ qt = prK N f0 es en 290 ∧ qd = max (DD N (prK N f0 es) en) (prK N f0 es en 291) ∧ DD N (prK N f0 es) en ≤ DD N (prK N f0 es) en) := (show _ ∧ _ from ⟨hfin, hqt.symm, by have := hy0.2.1; omega, Int.le_refl _⟩)
      generalize hdd : DD N (prK N f0 es) en = dd at *
      have HI2 : Hid (alP (prK N f0 es en) N ∧ qt = prK N f0 es en 290 ∧ qd = max dd (prK N f0 es en 291) ∧ DD N (prK N f0 es) en ≤ dd) := (show _ ∧ _ from by rw [hdd]; exact HI1.out)
      clear HI1 HQ hfin hy0 hsi hdd hqt hqd hq2 h9 h10 hSb hfc
      go_wp2_with fail
      clear f0c g0c d8
      go_loopw [15, 16] (fun x y wr2 => ∃ (t : Nat) (d : Int), t ≤ en ∧ x = .int .i64 t ∧ y = .int .i64 d ∧ Hid (alP (prK N f0 es t) N ∧ qt = prK N f0 es t 290 ∧ qd = max d (prK N f0 es t 291) ∧ DD N (prK N f0 es) t ≤ d) ∧ Hid (Below wr.heap.size wr wr2)) (fun x _ _ => (intOf x).toNat)
      case atStart => exact ⟨en, dd, Nat.le_refl _, rfl, rfl, HI2, Below.refl _ _⟩
      case round =>
        obtain ⟨t, d, ht, rfl, rfl, hinv, hb⟩ := hrel
        have HBX : Hid (Below w.heap.size w wr) := bst HB.out (hB.out.trans (hb.out.mono hB.out.size))
        have hBW : Below W.heap.size W wr := hB.out.trans (hb.out.mono hB.out.size)
        have d8 := belowB_at hBW hWs HC8.out
        by_cases ht0 : t = 0
        · subst ht0
          have hy := (HYes.out 0 hinv.out.1).2.2.1 rfl
          obtain rfl : ((0 : Nat) : Int) = qt := by rw [hinv.out.2.1]; exact hy.1.symm
          obtain rfl : d = qd := by have h1 := hinv.out.2.2.1; have h2 := hinv.out.2.2.2; rw [hy.2] at h1; omega
          have t4 : ¬ (0 : Int) < ((0 : Nat) : Int) := by omega
          clear HYes HBr hinv hb HF9 HF10 hBW hy
          go_wp2_with fail
          (try simp only [Exit.inBlock, Exit.then])
          refine bodyPost_ret (results_tmp3 rfl _ _ _) rfl ?_
          exact ⟨rfl, HBX.out⟩
        obtain ⟨k, rfl⟩ : ∃ k, t = k + 1 := ⟨t - 1, by omega⟩
        have t4 : (0 : Int) < ((k + 1 : Nat) : Int) := by omega
        have t5 : ((k + 1 : Nat) : Int) - 1 = (k : Int) := by omega
        have k1 : (0 : Int) ≤ (k : Int) := Int.natCast_nonneg _
        have k2 : (k : Int) < ((en + 1 : Nat) : Int) := by omega
        have k3 : (k : Int) < (en : Int) := by omega
        have fk := below_at hb.out (HF9.out k (by omega))
        have gk := below_at hb.out (HF10.out k (by omega))
        have hy := (HYes.out (k + 1) hinv.out.1).2.2.2 k rfl
        by_cases hk : alP (prK N f0 es k) N
        case neg =>
          rw [if_neg (fun hc => hk hc.1)] at hy
          obtain rfl : ((k + 1 : Nat) : Int) = qt := by rw [hinv.out.2.1]; exact hy.1.symm
          obtain rfl : d = qd := by have h1 := hinv.out.2.2.1; have h2 := hinv.out.2.2.2; rw [hy.2] at h1; omega
          rw [decide_eq_false hk] at fk
          clear HYes HBr hinv hb HF9 HF10 hBW hy hk gk
          go_wp2_with fail
          (try simp only [Exit.inBlock, Exit.then])
          refine bodyPost_ret (results_tmp3 rfl _ _ _) rfl ?_
          exact ⟨rfl, HBX.out⟩
        rw [decide_eq_true hk] at fk
        rcases HEv.out.row with h0 | ⟨eb, eo, rfl, hrow⟩
        · omega
        have hebW : eb < W.heap.size := World.block_lt_of_cell? W _ (hrow k (by omega) 0 _ rfl)
        have HEV : Hid (wr.rangeAt eb (eo + k * 13) (es.getD k em0).cs) := belowB_range hBW hebW (hrow k (by omega))
        have hbr := HBr.out k (es.getD k em0)
        have hba := bars_any (es.getD k em0) ao n c xs wr (HRi.out.below hBW) hn
        rw [hbr] at hba
        have hsk : slI N f0 es k = DD N (prK N f0 es) k := by unfold slI; rw [if_pos hk]
        rw [hsk] at gk
        have hyk := (HYes.out k hk).2.1
        clear hrow hbr
        generalize es.getD k em0 = e at *
        cases hdb : diB (prK N f0 es k) e.k e.a
        case true =>
          rw [hdb] at hba
          have HBa : Hid (Calls Try.prog 55 #[.agg e.cs.toArray, .slice ao n c] wr fun r w' => r = .returned (.bool true) ∧ Below wr.heap.size wr w') := hba
          rw [if_neg (fun hc => by rw [hdb] at hc; exact absurd hc.2 (by simp))] at hy
          obtain rfl : ((k + 1 : Nat) : Int) = qt := by rw [hinv.out.2.1]; exact hy.1.symm
          obtain rfl : d = qd := by have h1 := hinv.out.2.2.1; have h2 := hinv.out.2.2.2; rw [hy.2] at h1; omega
          clear HYes HBr hinv hb HF9 HF10 hBW hy hk gk hba hdb hyk hsk
          go_wp2_with (first | (refine Ln.at_load 36 _ rfl ?_; refine Ln.load_mid 36 _ HEV.out _ Try.underlying36 rfl (iEv e) rfl rfl rfl ?_) | fail)
          refine HBa.out.mono ?_
          rintro e5 w5 ⟨rfl, hb5⟩
          have HB5 : Hid (Below w.heap.size w w5) := bst HBX.out hb5
          clear hb5
          go_wp2_with fail
          (try simp only [Exit.inBlock, Exit.then])
          refine bodyPost_ret (results_tmp3 rfl _ _ _) rfl ?_
          exact ⟨rfl, HB5.out⟩
        rw [hdb] at hba
        have HBa : Hid (Calls Try.prog 55 #[.agg e.cs.toArray, .slice ao n c] wr fun r w' => r = .returned (.bool false) ∧ Below wr.heap.size wr w') := hba
        rw [if_pos ⟨hk, hdb⟩] at hy
        have HIn2 : Hid (alP (prK N f0 es k) N ∧ qt = prK N f0 es k 290 ∧ qd = max (max d (DD N (prK N f0 es) k)) (prK N f0 es k 291) ∧ DD N (prK N f0 es) k ≤ max d (DD N (prK N f0 es) k)) := (show _ ∧ _ from ⟨hk, by rw [hinv.out.2.1, hy.1], by have h1 := hinv.out.2.2.1; have h2 := hinv.out.2.2.2; rw [hy.2] at h1; omega, by omega⟩)
        have HBk : Hid (∀ w5, Below wr.heap.size wr w5 → w5.cell? ⟨gb, k, none⟩ = some (.int .i64 (DD N (prK N f0 es) k))) := (show ∀ w5, _ from fun w5 hb5 => below_at hb5 gk)
        generalize hdk : DD N (prK N f0 es) k = dk at *
        have HDk : Hid (DD N (prK N f0 es) k = dk) := hdk
        clear hdk
        clear HYes HBr hinv HF9 HF10 hBW hy hk hba hdb hyk hsk
        go_wp2_with (first | (refine Ln.at_load 36 _ rfl ?_; refine Ln.load_mid 36 _ HEV.out _ Try.underlying36 rfl (iEv e) rfl rfl rfl ?_) | fail)
        refine HBa.out.mono ?_
        rintro e5 w5 ⟨rfl, hb5⟩
        have gk5 := HBk.out w5 hb5
        have HBn := bst hb.out hb5
        clear hb5 gk fk HEV HBk d8
        by_cases hdm : d < dk
        all_goals
          go_wp2_with fail
          go_roundw
          case rel => exact ⟨k, max d dk, by omega, by go_num, by first | rfl | (congr 1; omega), by rw [HDk.out]; exact HIn2, HBn⟩
          case measure => simp [intOf]; try omega
end Go.Proofs.Ytfodkackfahldaa.Lo
