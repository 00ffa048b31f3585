import Derived.Test.YtnmnobcikmiojaaPb3
namespace Go.Proofs.Ytnmnobcikmiojaa.Qm
open Go.RowKit Mb
set_option linter.unusedVariables false
set_option maxRecDepth 100000
set_option linter.unusedSimpArgs false
section
variable {w w' : World}
theorem tmod_nat {g : Int} (h : 0 < g) : ∃ r : Nat, g.tmod 1000 = (r : Int) ∧ r ≤ 999 := by
  refine ⟨(g % 1000).toNat, ?_, ?_⟩
  · rw [Int.tmod_eq_emod_of_nonneg (by omega)]
    omega
  · omega
theorem wst_step {v : List Nat} {ns : List Int} {b k : Nat} {E E' : Int} {l : Value} {wr wq : World} (h : Wst w v ns b k E l wr) (hb : Below wr.heap.size wr wq) : Wst w v ns b k E l wq :=
  ⟨(by obtain ⟨A, h1, h2, h3, h4, h5, h6⟩ := h.ok; exact ⟨A, h1, h2, h3, h4, h5, h6.still hb⟩), own_still h.row hb, bstep h.bel hb, h.low⟩
theorem zi_at (L : List Nat) (i : Nat) : (zi L).getD i 0 = ((L.getD i 0 : Nat) : Int) := by
  by_cases h : i < L.length
  · simp [zi, List.getD, h]
  · simp [zi, List.getD, List.getElem?_eq_none (show L.length ≤ i by omega)]
theorem own_el {B g n c : Nat} {xs : List Int} (h : w.ownsRow B 3 1 (.slice (some ⟨g, 0, none⟩) n c) n (ints xs)) {i : Nat} (hi : i < n) : w.cell? ⟨g, i, none⟩ = some (.int .i64 (xs.getD i 0)) := by
  obtain ⟨b, o, e, hc⟩ := (own_rd h).at hi
  simp only [Option.some.injEq, Addr.mk.injEq] at e
  obtain ⟨rfl, rfl, -⟩ := e
  rw [Nat.zero_add] at hc
  exact hc
theorem own_some {B t s n : Nat} {v : Value} {l : List Value} (h : w.ownsRow B t s v n l) (hn : n ≠ 0) : ∃ g c, v = .slice (some ⟨g, 0, none⟩) n c := by
  rcases h.2 with ⟨h1, h2⟩ | ⟨g, cap, cur, hv, _⟩
  · exact absurd h2 hn
  · exact ⟨g, cap, hv⟩
theorem take_map (L : List Nat) (k q : Nat) (h : q < L.length) : (L.take (q + 1)).map (mbr k) = (L.take q).map (mbr k) ++ [mbr k (L.getD q 0)] := by
  rw [List.take_add_one, List.map_append]
  simp [List.getD, h]
theorem ksets {P : Nat → Prop} {k : Nat} (hp : P k) : ∀ (vs : List Value) (o : Nat) (w : World), Kept w (w.setCells k o vs) P
  | [], _, w => Kept.refl _ _
  | v :: vs, o, w => (kset w k o v hp).trans (ksets hp vs (o + 1) _)
theorem blk_range {b t : Nat} {cs : List Value} (h : w.heap[b]? = some (.cells cs.toArray t (0, 0))) : w.rangeAt b 0 cs := fun j u hu => by
  rw [Nat.zero_add, blk_cell h, List.getElem?_toArray]
  exact hu
theorem app_ig {w0 : World} {ops : Array Oper} {rest : List Oper} {o : Oper} {a : Act} {Q : Exit → Act → World → Prop} (hgd : o.guard = none) (s x : Operand)
    (ho : o.op = .call { callee := .builtin .append, args := #[s, x], argTypes := #[22, 22] })
    (v : Value) (n : Nat) (xs : List Int) (hs : a.eval s = v) (hown : w.ownsRow w0.heap.size 3 1 v n (ints xs)) (hb : Below w0.heap.size w0 w)
    (ad : Addr) (k c : Nat) (ys : List Int) (hx : a.eval x = .slice (some ad) k c) (hr : RdI w (some ad) k c ys) (hn : n + k ≤ 17592186044416)
    (h : ∀ v' w', Hid (w'.ownsRow w0.heap.size 3 1 v' (n + k) (ints (xs ++ ys))) → Hid (Below w0.heap.size w0 w') → Hid (w.grownBy w' v.ownBlock) → wpList Try.prog ops Q rest (a.put o.dst v') w') : wpList Try.prog ops Q (o :: rest) a w := by
  obtain ⟨i0, hi, hz0, hz1, hz2⟩ := int_info
  have hk := hr.len
  refine wpList_append_own w hgd s x 22 ho w0.heap.size 3 i0 (.int .i64 0) 1 8 Try.underlying22 hi hz0 hz1 hz2 (by rfl) (by decide) v n (ints xs) hs hown ad k c (ints ys) hx (by rw [ints_len]; omega) (rd_cells hr ad rfl) (ints_one ys) (by unfold maxLen; omega) (by omega) hb.size ?_
  intro v' w' h2 h3 _
  exact h v' w' (by show World.ownsRow _ _ _ _ _ _ _; simpa [ints] using h2) (hb.grown h3 hb.size (fun q hq => (World.ownsRow.lt hown q hq).1)) h3
theorem enter_set {A : Wa} (h : A.Ok w) {V : Vw} {mo : Option Addr} {mn mc S : Nat} (hr : Rd3 w mo mn mc V.ms) (hm : mn ≤ 1000) (hen : A.en ≤ 1000) (hqu : A.qu ≤ 1000) (hv : viewP A.v.length V = some S) (he : A.ep < V.ep) : Calls Try.prog 29 #[.pointer (some ⟨A.b, 0, none⟩), .agg #[.int .i64 V.ep, .int .i64 V.ld, .int .i64 V.ic, .int .i64 V.cd, .slice mo mn mc]] w fun e w' => e = .returned (.tuple #[.bool (wins A.v S), .int .i64 0]) ∧ (∃ A' : Wa, A'.b = A.b ∧ A'.v = A.v ∧ A'.ep = V.ep ∧ A'.en = A.en + 1 ∧ A'.qu = (if wins A.v S then A.qu + 1 else A.qu) ∧ A'.inn = wins A.v S ∧ (wins A.v S = true → A'.l0 = V.ep ∧ A'.l1 = V.ld ∧ A'.l2 = V.ic ∧ A'.l3 = V.cd) ∧ A'.Ok w') ∧ Kept w w' (fun j => j = A.b) := by
  refine (enter_w h hr (by omega) (by omega) (by omega)).mono ?_
  rintro e w' ⟨rfl, hA, hK⟩
  have e1 : A.enB V = wins A.v S := by unfold Wa.enB; rw [hv]; simp only; rw [if_neg (by omega)]
  have e2 : A.enE V = 0 := by unfold Wa.enE; rw [hv]; simp only; rw [if_neg (by omega)]
  rw [e1, e2]
  refine ⟨rfl, ⟨A.enA V, ?_⟩, hK⟩
  have e3 : A.enA V = if wins A.v S then { A with ep := V.ep, inn := true, en := A.en + 1, qu := A.qu + 1, l0 := V.ep, l1 := V.ld, l2 := V.ic, l3 := V.cd } else { A with ep := V.ep, inn := false, en := A.en + 1 } := by unfold Wa.enA; rw [hv]; simp only; rw [if_neg (by omega)]
  rw [e3] at hA ⊢
  cases hw : wins A.v S with
  | true =>
    rw [hw] at hA
    exact ⟨rfl, rfl, rfl, rfl, rfl, rfl, fun _ => ⟨rfl, rfl, rfl, rfl⟩, hA⟩
  | false =>
    rw [hw] at hA
    exact ⟨rfl, rfl, rfl, rfl, rfl, rfl, fun h => (by cases h), hA⟩
theorem cast_pred {M : Nat} (h : 0 < M) : ((M - 1 : Nat) : Int) = (M : Int) - 1 := by omega
theorem and_two {a b : Bool} (h : true = (a && b)) : a = true ∧ b = true := by cases a <;> cases b <;> simp_all
set_option maxHeartbeats 16000000 in
theorem watched_any {a : Option Addr} {m c : Nat} {v : List Nat} (hr : RdI w a m c (zi v)) (ho : Ok v) (hl : v.length = m) {ga : Option Addr} {gn gc : Nat} {gs : List Int} (hg : RdI w ga gn gc gs) {na : Option Addr} {nn nc : Nat} {ns : List Int} (hn : RdI w na nn nc ns) (hnn : nn ≤ 17592186044416) (hgn : gn ≤ 17592186044416) : Calls Try.prog 8 #[.slice a m c, .slice ga gn gc, .slice na nn nc] w fun e w' => ∃ r, e = .returned (.tuple #[r, .bool true]) ∧ w'.ownsRow w.heap.size 3 1 r (sel v (ns.take 40)).length (ints (zi (sel v (ns.take 40)))) ∧ Below w.heap.size w w' := by
  have h16 : m ≤ 16 := by rw [← hl]; exact ho.1
  have hm0 : 0 < m := by rw [← hl]; exact ho.pos
  have hM2 := two_pow_le m h16
  have HR : Hid (RdI w a m c (zi v)) := hr
  have HG : Hid (RdI w ga gn gc gs) := hg
  have HN : Hid (RdI w na nn nc ns) := hn
  have HOk : Hid (Ok v) := ho
  have Hlv : Hid (v.length = m) := hl
  have Hln : Hid (ns.length = nn) := hn.len
  have HCp : Hid (Calls Try.prog 10 #[.slice a m c] w fun e w' => e = .returned (.slice (some ⟨w.heap.size, 0, none⟩) m m) ∧ Rw w' w.heap.size 3 (zi v) ∧ Below w.heap.size w w') := copied_any hr (by omega)
  have HNew : Hid (∀ W, Rw W w.heap.size 3 (zi v) → Calls Try.prog 27 #[.slice (some ⟨w.heap.size, 0, none⟩) m m] W fun e w' => ∃ b, e = .returned (.tuple #[.pointer (some ⟨b, 0, none⟩), .int .i64 0]) ∧ (w0 b v).Ok w' ∧ W.heap.size ≤ b ∧ Below W.heap.size W w') := fun W hW => by
    have := new_yes (Rw.rd hW (n := m) (c := m) (by rw [zi_len]; exact hl) (Nat.le_refl _)) (okI_zi ho)
    rw [nv_zi] at this
    exact this
  clear hr hg hn ho hl
  go_enter Try.func8, Try.ntmps8
  go_wp2_with (first
    | (go_at_call 10; refine HCp.out.mono ?_; rintro e w1 ⟨rfl, hrw1, hb1⟩)
    | fail)
  have HB1 : Hid (Below w.heap.size w w1) := hb1
  refine (HNew.out _ hrw1).mono ?_
  rintro e w2 ⟨b, rfl, hA2, hbb, hb2⟩
  have HS0 : Hid (Wst w v ns b 0 0 (.slice none 0 0) w2) := ⟨⟨w0 b v, rfl, rfl, rfl, rfl, rfl, hA2⟩, row_nil _ _, bstep HB1.out hb2, Nat.le_trans HB1.out.size hbb⟩
  clear hb1 hrw1 hA2 hbb hb2 HB1 HCp HNew
  go_wp2_with (fail)
  go_loopw [10, 11, 12, 13, 14, 15, 16, 17, 18, 19, 20] (fun l ep i x13 x14 x15 x16 x17 x18 x19 x20 wr => ∃ (k E : Nat), k ≤ 40 ∧ k ≤ nn ∧ i = .int .i64 (k : Int) ∧ ep = .int .i64 (E : Int) ∧ E ≤ 1000 * k ∧ Hid (Wst w v ns b k (E : Int) l wr)) (fun _ _ i _ _ _ _ _ _ _ _ _ => 40 - (intOf i).toNat)
  case atStart => exact ⟨0, 0, by omega, by omega, rfl, rfl, by omega, HS0.out⟩
  case round =>
  obtain ⟨k, E, hk, hkn, rfl, rfl, hE, HS⟩ := hrel
  by_cases hlt : k < nn ∧ k < 40
  · obtain ⟨hk1, hk2⟩ := hlt
    have y1 : (k : Int) < (nn : Int) := by omega
    have y2 : (k : Int) < 40 := by omega
    have y0 : (0 : Int) ≤ (k : Int) := Int.natCast_nonneg _
    obtain ⟨gb, go, hgo, cN⟩ := (HN.out.still HS.out.bel).at hk1
    rw [hgo]
    obtain ⟨x, hx⟩ : ∃ x, ns.getD k 0 = x := ⟨_, rfl⟩
    rw [hx] at cN
    have hpw := pow_val m h16
    have HAnd := i64_and_int x (2 ^ m - 1) (by omega)
    have HsN : Hid (sN m x = if (BitVec.ofInt 64 x).toNat &&& (2 ^ m - 1) = 0 then 1 else (BitVec.ofInt 64 x).toNat &&& (2 ^ m - 1)) := rfl
    have HsL : Hid (sN m x < 2 ^ m) := sN_lt x hm0
    have HsZ : Hid (sN m x ≠ 0) := sN_ne m x
    have Hx : Hid (ns.getD k 0 = x) := hx
    obtain ⟨M, hM⟩ : ∃ M, M = 2 ^ m := ⟨_, rfl⟩
    have hM1 : 0 < M := by rw [hM]; exact Nat.two_pow_pos m
    have HM : Hid (M = 2 ^ m) := hM
    rw [← hM] at hpw HAnd HsN hM2 HsL
    have eM : ((M - 1 : Nat) : Int) = (M : Int) - 1 := cast_pred hM1
    rw [eM] at HAnd
    generalize (BitVec.ofInt 64 x).toNat &&& (M - 1) = Q at *
    obtain ⟨S, hSS⟩ : ∃ S, sN m x = S := ⟨_, rfl⟩
    rw [hSS] at HsN HsL HsZ
    have HSx : Hid (sN m x = S) := hSS
    clear hx hM eM hSS
    go_upto_if 54 with (fail)
    go_cut [13] (fun s wx => s = .int .i64 (S : Int) ∧ wr = wx)
    case first =>
      by_cases hQ : Q = 0
      · obtain rfl : S = 1 := by have := HsN.out; rw [if_pos hQ] at this; exact this
        subst hQ
        go_wp2
        go_meet
        exact ⟨rfl, rfl⟩
      · obtain rfl : S = Q := by have := HsN.out; rw [if_neg hQ] at this; exact this
        have hQ1 : ((S : Int) == 0) = false := by rw [beq_eq_false_iff_ne]; omega
        go_wp2
        go_meet
        exact ⟨rfl, rfl⟩
    case rest =>
    obtain ⟨rfl, rfl⟩ := hcut
    clear cN hpw HAnd HsN
    obtain ⟨gB, hgB⟩ : ∃ gB, gB = (decide (k < gn) && decide (0 < gs.getD k 0)) := ⟨_, rfl⟩
    have HgB : Hid (gB = (decide (k < gn) && decide (0 < gs.getD k 0))) := hgB
    clear hgB
    go_upto_region 13 with (fail)
    go_cut [67] (fun s wx => s = .bool gB ∧ wr = wx)
    case first =>
      by_cases hkg : k < gn
      · obtain ⟨gb2, go2, hgo2, cG⟩ := (HG.out.still HS.out.bel).at hkg
        rw [hgo2]
        have z1 : (k : Int) < (gn : Int) := by omega
        obtain ⟨y, hy⟩ : ∃ y, gs.getD k 0 = y := ⟨_, rfl⟩
        have HgB2 : Hid (gB = decide (0 < y)) := by show _ = _; rw [HgB.out, hy, decide_eq_true hkg, Bool.true_and]
        rw [hy] at cG
        have Hgo2 : Hid (ga = some ⟨gb2, go2, none⟩) := hgo2
        clear hy HgB hgo2
        go_wp2
        rw [← Hgo2.out]
        go_meet
        exact ⟨by rw [HgB2.out], rfl⟩
      · have z1 : ¬ (k : Int) < (gn : Int) := by omega
        have HgB2 : Hid (gB = false) := by show _ = _; rw [HgB.out, decide_eq_false hkg, Bool.false_and]
        go_wp2
        go_meet
        exact ⟨by rw [HgB2.out], rfl⟩
    case rest =>
    obtain ⟨rfl, rfl⟩ := hcut
    obtain ⟨E1, hE1, HEr⟩ : ∃ E1 : Nat, E < E1 ∧ E1 ≤ E + 1000 ∧ Hid (gB = true → ∃ r : Nat, (gs.getD k 0).tmod 1000 = (r : Int) ∧ r ≤ 999 ∧ E1 = E + 1 + r) ∧ Hid (gB = false → E1 = E + 1) := by
      cases hgb : gB with
      | true =>
        have := HgB.out
        rw [hgb] at this
        have hpos := of_decide_eq_true (and_two this).2
        obtain ⟨r, hr1, hr2⟩ := tmod_nat hpos
        exact ⟨E + 1 + r, by omega, by omega, fun _ => ⟨r, hr1, hr2, rfl⟩, fun h => (by cases h)⟩
      | false => exact ⟨E + 1, by omega, by omega, fun h => (by cases h), fun _ => rfl⟩
    obtain ⟨hE2, HEt, HEf⟩ := HEr
    go_upto_if 67 with (fail)
    go_cut [11] (fun s wx => s = .int .i64 (E1 : Int) ∧ wr = wx)
    case first =>
      cases hgb : gB with
      | true =>
        obtain ⟨r, hr1, hr2, hr3⟩ := HEt.out hgb
        have hkg : k < gn := by
          have := HgB.out
          rw [hgb] at this
          exact of_decide_eq_true (and_two this).1
        obtain ⟨gb2, go2, hgo2, cG⟩ := (HG.out.still HS.out.bel).at hkg
        rw [hgo2]
        have z1 : (k : Int) < (gn : Int) := by omega
        obtain ⟨y, hy⟩ : ∃ y, gs.getD k 0 = y := ⟨_, rfl⟩
        rw [hy] at cG hr1
        have HE3 : Hid (E1 = E + 1 + r) := hr3
        have Hgo2 : Hid (ga = some ⟨gb2, go2, none⟩) := hgo2
        clear hy hr3 HEt HEf HgB hgb hgo2
        go_wp2
        rw [← Hgo2.out]
        go_meet
        refine ⟨?_, rfl⟩
        rw [HE3.out]
        exact congrArg (Value.int .i64) (by omega)
      | false =>
        have HE3 : Hid (E1 = E + 1) := HEf.out hgb
        clear HEt HEf HgB hgb
        go_wp2
        go_meet
        refine ⟨?_, rfl⟩
        rw [HE3.out]
        rfl
    case rest =>
    obtain ⟨rfl, rfl⟩ := hcut
    clear HEt HEf HgB
    obtain ⟨wO, rfl⟩ : ∃ x : World, x = wr := ⟨_, rfl⟩
    generalize hV0 : wO.alloc (.cells #[.int .i64 0, .int .i64 0, .int .i64 0, .int .i64 0, .slice none 0 0] 62) = V0
    have HBV0 : Hid (Below wO.heap.size wO V0) := by rw [← hV0]; exact balloc (Below.refl _ _)
    have HV0b : Hid (V0.heap[wO.heap.size]? = some (.cells #[.int .i64 0, .int .i64 0, .int .i64 0, .int .i64 0, .slice none 0 0] 62 (0, 0))) := by rw [← hV0]; exact heap_alloc_new wO _
    have hSl : S < 65536 := by have := HsL.out; omega
    have hSM : S < 2 ^ m := by rw [← HM.out]; exact HsL.out
    have HLi : Hid (∀ V, Calls Try.prog 28 #[.int .i64 (S : Int), .int .i64 (m : Int)] V fun e w' => ∃ v, e = .returned v ∧ w'.ownsRow V.heap.size 3 1 v (listN S m).length (ints (zi (listN S m))) ∧ Below V.heap.size V w') := fun V => list_any S m hSl h16
    have hLl := listN_len S m
    have HLne : Hid ((listN S m).length ≠ 0) := listN_ne h16 hSM HsZ.out
    have HVw : Hid (viewP m ⟨(E1 : Int), (((listN S m).getD 0 0 : Nat) : Int), ((1 + k : Nat) : Int), ((2 + k : Nat) : Int), (listN S m).map (mbr k)⟩ = some S) := viewP_set h16 hSM HsZ.out (by omega) (by omega) (by omega)
    generalize listN S m = L at *
    clear hSM
    have HSM : Hid (S < M) := HsL.out
    go_wp2_with (first
      | (go_at_call 28; refine (HLi.out _).mono ?_; rintro e V1 ⟨mv, rfl, hO1, hb1⟩)
      | fail)
    obtain ⟨g, mcp, rfl⟩ := own_some hO1 HLne.out
    have HM1 : Hid (Mq wO (.slice (some ⟨g, 0, none⟩) L.length mcp) L k wO.heap.size 0 none 0 V1) := ⟨(hb1.block _ (lt_heap HV0b.out)).trans HV0b.out, ⟨rfl, .inl ⟨rfl, rfl⟩⟩, own_lower hO1 HBV0.out.size, bstep HBV0.out hb1⟩
    clear hO1 hb1 HLi HV0b hV0 HBV0
    go_wp2_with (fail)
    go_loopw [16] (fun j wr => ∃ (q : Nat) (mo : Option Addr) (mc : Nat), q ≤ L.length ∧ j = .int .i64 (q : Int) ∧ Hid (Mq wO (.slice (some ⟨g, 0, none⟩) L.length mcp) L k wO.heap.size q mo mc wr)) (fun j _ => L.length - (intOf j).toNat)
    case atStart => exact ⟨0, none, 0, Nat.zero_le _, rfl, HM1.out⟩
    case round =>
    obtain ⟨q, mo, mc, hqL, rfl, HM2⟩ := hrel
    by_cases hq : q < L.length
    · have i1 : (0 : Int) ≤ (q : Int) := Int.natCast_nonneg _
      have i2 : (q : Int) < (L.length : Int) := by omega
      have HBq : Hid (Below wO.heap.size wO wr) := HM2.out.bel
      have e1c : wr.drew.cell? ⟨wO.heap.size, 4, none⟩ = some (.slice mo q mc) := below_at (Below.refl _ _).drew (blk_cell HM2.out.blk 4)
      have cE := below_at (Below.refl _ _).drew (own_el HM2.out.ml hq)
      rw [zi_at] at cE
      have HTk : Hid ((L.take (q + 1)).map (mbr k) = (L.take q).map (mbr k) ++ [mbr k (L.getD q 0)]) := take_map L k q hq
      generalize L.getD q 0 = p at *
      generalize hF1 : wr.drew.alloc (.cells #[.int .i64 (p : Int), .int .i64 (1 + (k : Int)), .int .i64 (2 + (k : Int))] 65) = F1
      have HBF : Hid (Below wr.drew.heap.size wr.drew F1) := by rw [← hF1]; exact balloc (Below.refl _ _)
      have HF1b : Hid (F1.heap[wr.heap.size]? = some (.cells #[.int .i64 (p : Int), .int .i64 (1 + (k : Int)), .int .i64 (2 + (k : Int))] 65 (0, 0))) := by rw [← hF1]; exact heap_alloc_new wr.drew _
      have HBQ : Hid (Below wr.heap.size wr F1) := bstep (Below.refl _ _).drew HBF.out
      have f1c : F1.cell? ⟨wO.heap.size, 4, none⟩ = some (.slice mo q mc) := below_at HBF.out e1c
      have cF : F1.cell? ⟨g, q, none⟩ = some (.int .i64 (p : Int)) := below_at HBF.out cE
      have HRF : Hid (F1.ownsRow wO.heap.size 65 3 (.slice mo q mc) q (ints (fl3 ((L.take q).map (mbr k))))) := own_still HM2.out.row HBQ.out
      have HLF : Hid (F1.ownsRow wO.heap.size 3 1 (.slice (some ⟨g, 0, none⟩) L.length mcp) L.length (ints (zi L))) := own_still HM2.out.ml HBQ.out
      have HVF : Hid (F1.heap[wO.heap.size]? = some (.cells #[.int .i64 0, .int .i64 0, .int .i64 0, .int .i64 0, .slice mo q mc] 62 (0, 0))) := (HBQ.out.block _ (lt_heap HM2.out.blk)).trans HM2.out.blk
      have HBB : Hid (Below wO.heap.size wO F1) := bstep HBq.out HBQ.out
      have HnV : Hid (¬ some wO.heap.size = (Value.slice mo q mc).ownBlock) := fun e => by
        obtain ⟨cur, hc⟩ := own_type HRF.out e.symm
        exact ty_ne HVF.out hc (by decide) rfl
      have HnG : Hid (¬ some g = (Value.slice mo q mc).ownBlock) := fun e => by
        obtain ⟨cur, hc⟩ := own_type HRF.out e.symm
        obtain ⟨cur2, hc2⟩ := own_type HLF.out (rfl : (Value.slice (some ⟨g, 0, none⟩) L.length mcp).ownBlock = some g)
        exact ty_ne hc2 hc (by decide) rfl
      have hRd : Hid (Rd3 F1 (some ⟨wr.heap.size, 0, none⟩) 1 1 [mbr k p]) := ⟨rfl, Nat.le_refl _, by simp, .inr ⟨_, _, rfl, fun i hi j u hu => by
        obtain rfl : i = 0 := by omega
        simp only [Nat.zero_mul, Nat.zero_add]
        rw [blk_cell HF1b.out]
        match j, hu with
        | 0, hu => exact hu
        | 1, hu => exact hu.trans (by simp)
        | 2, hu => exact hu.trans (by simp)
        | j + 3, hu => simp [ints, St.li] at hu⟩⟩
      go_wp2_with (fail)
      refine wp_region_held_drew (S := (fun w' => w'.cell? ⟨g, q, none⟩ = some (.int .i64 (p : Int)))) (by kernel_rfl) cE (fun hHeld => ?_)
      simp only [Act.put, List.size_toArray, List.length_cons, List.length_nil, Nat.zero_add]
      refine wpAnyH_take (i := 0) (v := .pointer (some ⟨wO.heap.size, 4, none⟩)) rfl (by kernel_rfl) (by kernel_rfl) (by kernel_rfl) (fun _ _ _ h => h) (Or.inl ⟨by rfl, fun w' hS => by go_simp⟩) hHeld ?_
      simp only [Act.put, List.getElem_toArray, List.getElem_cons_zero, List.getElem_cons_succ, List.setIfInBounds_toArray, List.set_cons_zero, List.set_cons_succ]
      refine wpAnyH_take (i := 2) (v := (.slice (some ⟨g, 0, none⟩) L.length mcp)) rfl (by kernel_rfl) (by kernel_rfl) (by kernel_rfl) (fun _ _ _ h => h) (Or.inl ⟨by rfl, fun w' hS => by go_simp⟩) hHeld ?_
      simp only [Act.put, List.getElem_toArray, List.getElem_cons_zero, List.getElem_cons_succ, List.setIfInBounds_toArray, List.set_cons_zero, List.set_cons_succ]
      refine wpAnyH_take (i := 3) (v := .int .i64 (q : Int)) rfl (by kernel_rfl) (by kernel_rfl) (by kernel_rfl) (fun _ _ _ h => h) (Or.inl ⟨by rfl, fun w' hS => by go_simp⟩) hHeld ?_
      simp only [Act.put, List.getElem_toArray, List.getElem_cons_zero, List.getElem_cons_succ, List.setIfInBounds_toArray, List.set_cons_zero, List.set_cons_succ]
      refine wpAnyH_take (i := 4) (v := .pointer (some ⟨g, q, none⟩)) rfl (by kernel_rfl) (by kernel_rfl) (by kernel_rfl) (fun _ _ _ h => h) (Or.inl ⟨by rfl, fun w' hS => by go_simp⟩) hHeld ?_
      simp only [Act.put, List.getElem_toArray, List.getElem_cons_zero, List.getElem_cons_succ, List.setIfInBounds_toArray, List.set_cons_zero, List.set_cons_succ]
      refine wpAnyH_take (i := 5) (v := .int .i64 (p : Int)) rfl (by kernel_rfl) (by kernel_rfl) (by kernel_rfl) (fun _ _ _ h => h) (Or.inl ⟨by rfl, fun w' hS => by go_simp⟩) hHeld ?_
      simp only [Act.put, List.getElem_toArray, List.getElem_cons_zero, List.getElem_cons_succ, List.setIfInBounds_toArray, List.set_cons_zero, List.set_cons_succ]
      refine wpAnyH_take (i := 6) (v := .int .i64 (k : Int)) rfl (by kernel_rfl) (by kernel_rfl) (by kernel_rfl) (fun _ _ _ h => h) (Or.inl ⟨by rfl, fun w' hS => by go_simp⟩) hHeld ?_
      simp only [Act.put, List.getElem_toArray, List.getElem_cons_zero, List.getElem_cons_succ, List.setIfInBounds_toArray, List.set_cons_zero, List.set_cons_succ]
      refine wpAnyH_take (i := 7) (v := .int .i64 (1 + (k : Int))) rfl (by kernel_rfl) (by kernel_rfl) (by kernel_rfl) (fun _ _ _ h => h) (Or.inl ⟨by rfl, fun w' hS => by (go_simp; exact wrap_id (by omega) (by omega))⟩) hHeld ?_
      simp only [Act.put, List.getElem_toArray, List.getElem_cons_zero, List.getElem_cons_succ, List.setIfInBounds_toArray, List.set_cons_zero, List.set_cons_succ]
      refine wpAnyH_take (i := 8) (v := .int .i64 (k : Int)) rfl (by kernel_rfl) (by kernel_rfl) (by kernel_rfl) (fun _ _ _ h => h) (Or.inl ⟨by rfl, fun w' hS => by go_simp⟩) hHeld ?_
      simp only [Act.put, List.getElem_toArray, List.getElem_cons_zero, List.getElem_cons_succ, List.setIfInBounds_toArray, List.set_cons_zero, List.set_cons_succ]
      refine wpAnyH_take (i := 9) (v := .int .i64 (2 + (k : Int))) rfl (by kernel_rfl) (by kernel_rfl) (by kernel_rfl) (fun _ _ _ h => h) (Or.inl ⟨by rfl, fun w' hS => by (go_simp; exact wrap_id (by omega) (by omega))⟩) hHeld ?_
      simp only [Act.put, List.getElem_toArray, List.getElem_cons_zero, List.getElem_cons_succ, List.setIfInBounds_toArray, List.set_cons_zero, List.set_cons_succ]
      refine wpAnyH_take (i := 10) (v := .agg #[.int .i64 (p : Int), .int .i64 (1 + (k : Int)), .int .i64 (2 + (k : Int))]) rfl (by kernel_rfl) (by kernel_rfl) (by kernel_rfl) (fun _ _ _ h => h) (Or.inl ⟨by rfl, fun w' hS => by exact run_buildop 65 _ rfl _ (by kernel_rfl)⟩) hHeld ?_
      simp only [Act.put, List.getElem_toArray, List.getElem_cons_zero, List.getElem_cons_succ, List.setIfInBounds_toArray, List.set_cons_zero, List.set_cons_succ]
      refine wpAnyH_ready (rs := [1, 11]) (by kernel_rfl) (by simp) ?_
      refine AllReadyH.cons rfl (fun K hK => ?_) (AllReadyH.cons rfl (fun K hK => ?_) AllReadyH.nil)
      · skip
        go_simp
        refine hK.out _ _ cE (fun hHeld => ?_)
        clear hK K
        refine wpAnyH_ready (rs := [11]) (by kernel_rfl) (by simp) ?_
        refine AllReadyH.cons rfl (fun K hK => ?_) AllReadyH.nil
        go_simp
        refine hK.out _ _ cF (fun hHeld => ?_)
        clear hK K
        refine wpAnyH_ready (rs := [12]) (by kernel_rfl) (by simp) ?_
        refine AllReadyH.cons rfl (fun K hK => ?_) AllReadyH.nil
        split
        · skip
          refine wp_app_m (w0 := wO) (.tmp 86) (.tmp 96) rfl (.slice mo q mc) q _ rfl HRF.out HBB.out ⟨wr.heap.size, 0, none⟩ 1 1 [mbr k p] rfl hRd.out (by omega) ?_
          intro v2 G1 HO2 HBg HGr
          obtain ⟨a2, c2, rfl⟩ := own_shape HO2.out
          have HKg : Hid (Kept F1 G1 (fun j => some j = (Value.slice mo q mc).ownBlock)) := Kept.ofGrown HGr.out
          have g1 : G1.cell? ⟨wO.heap.size, 4, none⟩ = some (.slice mo q mc) := Kept.cell HKg.out f1c HnV.out
          have HVg : Hid (G1.heap[wO.heap.size]? = some (.cells #[.int .i64 0, .int .i64 0, .int .i64 0, .int .i64 0, .slice mo q mc] 62 (0, 0))) := HKg.out.obj HVF.out HnV.out
          have gz : G1.frozen? ⟨wO.heap.size, 4, none⟩ = false := frozen_of_row G1 _ 4 _ _ HVg.out
          have cG1 : G1.cell? ⟨g, q, none⟩ = some (.int .i64 (p : Int)) := Kept.cell HKg.out cF HnG.out
          refine hK.out _ _ cG1 (fun hHeld => ?_)
          clear hK K
          refine wpAnyH_take (i := 13) (v := .pointer (some ⟨wO.heap.size, 4, none⟩)) rfl (by kernel_rfl) (by kernel_rfl) (by kernel_rfl) (fun _ _ _ h => h) (Or.inl ⟨by rfl, fun w' hS => by go_simp⟩) hHeld ?_
          simp only [Act.put, List.getElem_toArray, List.getElem_cons_zero, List.getElem_cons_succ, List.setIfInBounds_toArray, List.set_cons_zero, List.set_cons_succ]
          refine wpAnyH_ready (rs := [14]) (by kernel_rfl) (by simp) ?_
          refine AllReadyH.cons rfl (fun K hK => ?_) AllReadyH.nil
          obtain ⟨H1, hH1⟩ : ∃ H1, G1.setCell ⟨wO.heap.size, 4, none⟩ (.slice a2 (q + 1) c2) = H1 := ⟨_, rfl⟩
          have HKh : Hid (Kept G1 H1 (fun j => j = wO.heap.size)) := by rw [← hH1]; exact kset (P := fun j => j = wO.heap.size) _ _ _ _ rfl
          have HLg : Hid (G1.ownsRow wO.heap.size 3 1 (.slice (some ⟨g, 0, none⟩) L.length mcp) L.length (ints (zi L))) := own_keepT HLF.out HKg.out (fun j cur hj e => by
            obtain ⟨cur2, hc2⟩ := own_type HRF.out e.symm
            exact ty_ne hj hc2 (by decide) rfl)
          have hgV : g ≠ wO.heap.size := by
            obtain ⟨cur2, hc2⟩ := own_type HLg.out (rfl : (Value.slice (some ⟨g, 0, none⟩) L.length mcp).ownBlock = some g)
            exact ty_ne hc2 HVg.out (by decide)
          have cH1 : H1.cell? ⟨g, q, none⟩ = some (.int .i64 (p : Int)) := Kept.cell HKh.out cG1 hgV
          have HM3 : Hid (Mq wO (.slice (some ⟨g, 0, none⟩) L.length mcp) L k wO.heap.size (q + 1) a2 c2 H1) := by
            refine ⟨?_, ?_, ?_, ?_⟩
            · rw [← hH1]; exact blk_set HVg.out rfl
            · rw [HTk.out]
              exact own_keepT HO2.out HKh.out (fun j cur hj e => ty_ne hj HVg.out (by decide) e)
            · exact HKh.out.owns HLg.out (fun j hj e => hgV (by simp [Value.ownBlock] at hj; omega))
            · exact HBg.out.trans (HKh.out.below HBg.out.size (fun j hj e => by omega))
          go_simp
          try rw [hH1]
          refine hK.out _ _ cH1 (fun hHeld => ?_)
          clear hK K
          refine wpAnyH_done (by kernel_rfl) ?_ _
          clear hHeld hH1 g1 gz cG1 cH1 cF cE f1c e1c hgV
          go_wp2_with (fail)
          exact ⟨⟨q + 1, a2, c2, by omega, by go_num, HM3.out⟩, by simp [intOf]; omega⟩
        · rename_i hne2
          exact absurd rfl hne2
      · skip
        go_simp
        refine hK.out _ _ cF (fun hHeld => ?_)
        clear hK K
        refine wpAnyH_ready (rs := [1]) (by kernel_rfl) (by simp) ?_
        refine AllReadyH.cons rfl (fun K hK => ?_) AllReadyH.nil
        go_simp
        refine hK.out _ _ cF (fun hHeld => ?_)
        clear hK K
        refine wpAnyH_ready (rs := [12]) (by kernel_rfl) (by simp) ?_
        refine AllReadyH.cons rfl (fun K hK => ?_) AllReadyH.nil
        split
        · skip
          refine wp_app_m (w0 := wO) (.tmp 86) (.tmp 96) rfl (.slice mo q mc) q _ rfl HRF.out HBB.out ⟨wr.heap.size, 0, none⟩ 1 1 [mbr k p] rfl hRd.out (by omega) ?_
          intro v2 G1 HO2 HBg HGr
          obtain ⟨a2, c2, rfl⟩ := own_shape HO2.out
          have HKg : Hid (Kept F1 G1 (fun j => some j = (Value.slice mo q mc).ownBlock)) := Kept.ofGrown HGr.out
          have g1 : G1.cell? ⟨wO.heap.size, 4, none⟩ = some (.slice mo q mc) := Kept.cell HKg.out f1c HnV.out
          have HVg : Hid (G1.heap[wO.heap.size]? = some (.cells #[.int .i64 0, .int .i64 0, .int .i64 0, .int .i64 0, .slice mo q mc] 62 (0, 0))) := HKg.out.obj HVF.out HnV.out
          have gz : G1.frozen? ⟨wO.heap.size, 4, none⟩ = false := frozen_of_row G1 _ 4 _ _ HVg.out
          have cG1 : G1.cell? ⟨g, q, none⟩ = some (.int .i64 (p : Int)) := Kept.cell HKg.out cF HnG.out
          refine hK.out _ _ cG1 (fun hHeld => ?_)
          clear hK K
          refine wpAnyH_take (i := 13) (v := .pointer (some ⟨wO.heap.size, 4, none⟩)) rfl (by kernel_rfl) (by kernel_rfl) (by kernel_rfl) (fun _ _ _ h => h) (Or.inl ⟨by rfl, fun w' hS => by go_simp⟩) hHeld ?_
          simp only [Act.put, List.getElem_toArray, List.getElem_cons_zero, List.getElem_cons_succ, List.setIfInBounds_toArray, List.set_cons_zero, List.set_cons_succ]
          refine wpAnyH_ready (rs := [14]) (by kernel_rfl) (by simp) ?_
          refine AllReadyH.cons rfl (fun K hK => ?_) AllReadyH.nil
          obtain ⟨H1, hH1⟩ : ∃ H1, G1.setCell ⟨wO.heap.size, 4, none⟩ (.slice a2 (q + 1) c2) = H1 := ⟨_, rfl⟩
          have HKh : Hid (Kept G1 H1 (fun j => j = wO.heap.size)) := by rw [← hH1]; exact kset (P := fun j => j = wO.heap.size) _ _ _ _ rfl
          have HLg : Hid (G1.ownsRow wO.heap.size 3 1 (.slice (some ⟨g, 0, none⟩) L.length mcp) L.length (ints (zi L))) := own_keepT HLF.out HKg.out (fun j cur hj e => by
            obtain ⟨cur2, hc2⟩ := own_type HRF.out e.symm
            exact ty_ne hj hc2 (by decide) rfl)
          have hgV : g ≠ wO.heap.size := by
            obtain ⟨cur2, hc2⟩ := own_type HLg.out (rfl : (Value.slice (some ⟨g, 0, none⟩) L.length mcp).ownBlock = some g)
            exact ty_ne hc2 HVg.out (by decide)
          have cH1 : H1.cell? ⟨g, q, none⟩ = some (.int .i64 (p : Int)) := Kept.cell HKh.out cG1 hgV
          have HM3 : Hid (Mq wO (.slice (some ⟨g, 0, none⟩) L.length mcp) L k wO.heap.size (q + 1) a2 c2 H1) := by
            refine ⟨?_, ?_, ?_, ?_⟩
            · rw [← hH1]; exact blk_set HVg.out rfl
            · rw [HTk.out]
              exact own_keepT HO2.out HKh.out (fun j cur hj e => ty_ne hj HVg.out (by decide) e)
            · exact HKh.out.owns HLg.out (fun j hj e => hgV (by simp [Value.ownBlock] at hj; omega))
            · exact HBg.out.trans (HKh.out.below HBg.out.size (fun j hj e => by omega))
          go_simp
          try rw [hH1]
          refine hK.out _ _ cH1 (fun hHeld => ?_)
          clear hK K
          refine wpAnyH_done (by kernel_rfl) ?_ _
          clear hHeld hH1 g1 gz cG1 cH1 cF cE f1c e1c hgV
          go_wp2_with (fail)
          exact ⟨⟨q + 1, a2, c2, by omega, by go_num, HM3.out⟩, by simp [intOf]; omega⟩
        · rename_i hne2
          exact absurd rfl hne2

    · have hqe : q = L.length := by omega
      have HqL : Hid (q = L.length) := hqe
      have z1 : ¬ (q : Int) < (L.length : Int) := by omega
      have HLp : Hid (0 < L.length) := by have := HLne.out; show _ < _; omega
      have hLp : (0 : Int) < (L.length : Int) := by have := HLp.out; omega
      have cE := own_el HM2.out.ml HLp.out
      rw [zi_at] at cE
      obtain ⟨A, hAb, hAv, hAep, hAen, hAqu, hAok⟩ := HS.out.ok
      obtain ⟨p0, hp0⟩ : ∃ p0, L.getD 0 0 = p0 := ⟨_, rfl⟩
      rw [hp0] at cE HVw
      obtain ⟨Z1, hZ1⟩ : ∃ Z1, wr.setCells wO.heap.size 0 (ints [(E1 : Int), (p0 : Int), 1 + (k : Int), 2 + (k : Int)]) = Z1 := ⟨_, rfl⟩
      have HZb : Hid (Z1.heap[wO.heap.size]? = some (.cells #[.int .i64 (E1 : Int), .int .i64 (p0 : Int), .int .i64 (1 + (k : Int)), .int .i64 (2 + (k : Int)), .slice mo q mc] 62 (0, 0))) := by rw [← hZ1]; exact blk_set (blk_set (blk_set (blk_set HM2.out.blk rfl) rfl) rfl) rfl
      have HBZ : Hid (Below wO.heap.size wO Z1) := by rw [← hZ1]; exact bsets (Nat.le_refl _) _ _ HM2.out.bel
      have HTh : Hid (wr.there wO.heap.size 0 4) := fun j hj => ⟨by
        rw [Nat.zero_add, blk_cell HM2.out.blk]
        match j, hj with
        | 0, _ => rfl
        | 1, _ => rfl
        | 2, _ => rfl
        | 3, _ => rfl, frozen_of_row wr _ _ _ _ HM2.out.blk⟩
      have HRv : Hid (Z1.rangeAt wO.heap.size 0 [.int .i64 (E1 : Int), .int .i64 (p0 : Int), .int .i64 (1 + (k : Int)), .int .i64 (2 + (k : Int)), .slice mo q mc]) := blk_range HZb.out
      have hKZ : Kept wr Z1 (fun j => j = wO.heap.size) := by rw [← hZ1]; exact ksets (P := fun j => j = wO.heap.size) rfl _ _ _
      have HRm : Hid (Rd3 Z1 mo q mc (L.map (mbr k))) := by
        have h1 := own_keepT HM2.out.row hKZ (fun j cur hj e => ty_ne hj HM2.out.blk (by decide) e)
        rw [List.take_of_length_le (by omega)] at h1
        exact own3_rd h1
      have hquL : A.qu ≤ k := by rw [hAqu]; exact Nat.le_trans (sel_len _ _) (by rw [List.length_take]; omega)
      have HEn : Hid (Calls Try.prog 29 #[.pointer (some ⟨b, 0, none⟩), .agg #[.int .i64 (E1 : Int), .int .i64 (p0 : Int), .int .i64 (1 + (k : Int)), .int .i64 (2 + (k : Int)), .slice mo q mc]] Z1 fun e w' => e = .returned (.tuple #[.bool (wins v S), .int .i64 0]) ∧ (∃ A' : Wa, A'.b = b ∧ A'.v = v ∧ A'.ep = (E1 : Int) ∧ A'.en = k + 1 ∧ A'.qu = (if wins v S then (sel v (ns.take k)).length + 1 else (sel v (ns.take k)).length) ∧ A'.inn = wins v S ∧ (wins v S = true → A'.l0 = (E1 : Int) ∧ A'.l1 = (p0 : Int) ∧ A'.l2 = 1 + (k : Int) ∧ A'.l3 = 2 + (k : Int)) ∧ A'.Ok w') ∧ Kept Z1 w' (fun j => j = b)) := by
        have hv2 : viewP A.v.length ⟨(E1 : Int), (p0 : Int), 1 + (k : Int), 2 + (k : Int), L.map (mbr k)⟩ = some S := by
          rw [hAv, Hlv.out]
          have := HVw.out
          rw [Int.natCast_add, Int.natCast_add] at this
          exact this
        have := enter_set (hAok.still HBZ.out) (V := ⟨(E1 : Int), (p0 : Int), 1 + (k : Int), 2 + (k : Int), L.map (mbr k)⟩) HRm.out (by omega) (by omega) (by omega) hv2 (by rw [hAep]; show (E : Int) < (E1 : Int); omega)
        rw [hAb, hAv, hAen, hAqu] at this
        exact this
      have HbT : Hid (∃ C, Z1.heap[b]? = some (.cells C 88 (0, 0))) := ⟨_, hAb ▸ (hAok.still HBZ.out).blk⟩
      obtain ⟨la, lc, hlv⟩ := own_shape HS.out.row
      rw [hlv]
      have HLr : Hid (Z1.ownsRow w.heap.size 3 1 (.slice la (sel v (ns.take k)).length lc) (sel v (ns.take k)).length (ints (zi (sel v (ns.take k))))) := by
        rw [← hlv]; exact own_still HS.out.row HBZ.out
      have HBw : Hid (Below w.heap.size w Z1) := bstep HS.out.bel HBZ.out
      have HBV : Hid (w.heap.size ≤ wO.heap.size) := HS.out.bel.size
      have Hlow : Hid (w.heap.size ≤ b) := HS.out.low
      have hsl : (sel v (ns.take k)).length ≤ k := by rw [← hAqu]; exact hquL
      have HSn : Hid (sel v (ns.take (k + 1)) = if wins v S then sel v (ns.take k) ++ [S] else sel v (ns.take k)) := by
        show _ = _
        rw [take_snoc (by rw [Hln.out]; exact hk1), sel_snoc, Hx.out, Hlv.out, HSx.out]
      generalize sel v (ns.take k) = X at *
      clear hAb hAv hAep hAen hAqu hAok hquL HM2 HM1 hqe hp0 hKZ HVw hlv hqL HS
      go_wp2_with (first
        | (refine at_store 59 (.tmp 108) (.tmp 107) rfl ?_; refine store_mid 59 (.tmp 108) (.tmp 107) (xs := [(E1 : Int), (p0 : Int), 1 + (k : Int), 2 + (k : Int)]) HTh.out info_vid rfl rfl rfl rfl ?_)
        | (refine at_load 62 (.tmp 14) rfl ?_; refine load_mid 62 (.tmp 14) HRv.out _ Try.underlying62 rfl info_view rfl rfl rfl ?_)
        | (go_at_call 29; refine HEn.out.mono ?_; rintro e w5 ⟨rfl, hA5, hK5⟩)
        | fail)
      obtain ⟨A', hb', hv', hep', hen', hqu', hin', hl', hok'⟩ := hA5
      have HIn : Hid (Calls Try.prog 30 #[.pointer (some ⟨b, 0, none⟩)] w5 fun e w' => e = .returned (.bool (wins v S)) ∧ w5 = w') := by
        have := in_w hok'
        rw [hb', hin'] at this
        exact this
      have HL5 : Hid (w5.ownsRow w.heap.size 3 1 (.slice la X.length lc) X.length (ints (zi X))) := own_keepT HLr.out hK5 (fun j cur hj e => by
        obtain ⟨C, hC⟩ := HbT.out
        exact ty_ne hj hC (by decide) e)
      have HV5 : Hid (w5.heap[wO.heap.size]? = some (.cells #[.int .i64 (E1 : Int), .int .i64 (p0 : Int), .int .i64 (1 + (k : Int)), .int .i64 (2 + (k : Int)), .slice mo q mc] 62 (0, 0))) := hK5.obj HZb.out (fun e => by
        obtain ⟨C, hC⟩ := HbT.out
        exact ty_ne HZb.out hC (by decide) e)
      have HB5 : Hid (Below w.heap.size w w5) := HBw.out.trans (hK5.below HBw.out.size (fun j hj e => by have := Hlow.out; omega))
      have HA5 : Hid (A'.Ok w5) := hok'
      have Hb' : Hid (A'.b = b) := hb'
      have Hv' : Hid (A'.v = v) := hv'
      have Hep' : Hid (A'.ep = (E1 : Int)) := hep'
      have Hen' : Hid (A'.en = k + 1) := hen'
      clear hb' hv' hep' hen' hin' hok' hK5 HEn HbT HZb HRv HTh HRm HLr HBw hZ1 HBZ cE
      cases hw : wins v S with
      | true =>
        rw [hw] at HIn HSn hqu' hl'
        obtain ⟨l0, l1, l2, l3⟩ := hl' rfl
        have Hla : Hid (∀ V, A'.Ok V → Calls Try.prog 31 #[.pointer (some ⟨b, 0, none⟩)] V fun e w' => e = .returned (.agg (ints [(E1 : Int), (p0 : Int), 1 + (k : Int), 2 + (k : Int)]).toArray) ∧ Below V.heap.size V w') := fun V hV => by
          have := last_w hV
          rw [Hb'.out, l0, l1, l2, l3] at this
          exact this
        have Hqu : Hid (A'.qu = X.length + 1) := hqu'
        have Hco : Hid (∀ V, A'.Ok V → Calls Try.prog 32 #[.pointer (some ⟨b, 0, none⟩)] V fun e w' => e = .returned (.tuple #[.int .i64 ((k : Int) + 1), .int .i64 ((X.length : Int) + 1)]) ∧ Below V.heap.size V w') := fun V hV => by
          have := count_w hV
          rw [Hb'.out, Hen'.out, Hqu.out, Int.natCast_add, Int.natCast_add] at this
          exact this
        clear l0 l1 l2 l3 hl' hqu' hw
        refine HIn.out.mono ?_
        rintro e w6 ⟨rfl, rfl⟩
        go_wp2_with (first
          | (at_builtin; refine app_ig (w0 := w) rfl (.tmp 124) (.tmp 126) rfl (.slice la X.length lc) X.length (zi X) rfl (HL5.out.alloc _) (balloc HB5.out) ⟨w5.heap.size, 0, none⟩ 1 1 [(S : Int)] rfl (Rw.rd (blk_one _) rfl (Nat.le_refl _)) (by omega) ?_; intro l6 w6 HO6 HB6 HG6)
          | fail)
        obtain ⟨a6, c6, rfl⟩ := own_shape HO6.out
        have HKa : Hid (Below w5.heap.size w5 (w5.alloc (.cells #[.int .i64 (S : Int)] 3))) := balloc (Below.refl _ _)
        have HK6 : Hid (Kept (w5.alloc (.cells #[.int .i64 (S : Int)] 3)) w6 (fun j => some j = (Value.slice la X.length lc).ownBlock)) := Kept.ofGrown HG6.out
        have HnT : Hid (∀ (t : Nat) (j : Nat) (C : Array Value), (w5.alloc (.cells #[.int .i64 (S : Int)] 3)).heap[j]? = some (.cells C t (0, 0)) → t ≠ 3 → ¬ some j = (Value.slice la X.length lc).ownBlock) := fun t j C hj ht e => by
          obtain ⟨cur, hc⟩ := own_type (own_still HL5.out HKa.out) e.symm
          exact ty_ne hj hc ht rfl
        have HA6 : Hid (A'.Ok w6) := (HA5.out.still HKa.out).keep HK6.out (HnT.out _ _ _ (HA5.out.still HKa.out).blk (by decide))
        have hV5' := (HKa.out.block _ (lt_heap HV5.out)).trans HV5.out
        have HV6 : Hid (w6.heap[wO.heap.size]? = some (.cells #[.int .i64 (E1 : Int), .int .i64 (p0 : Int), .int .i64 (1 + (k : Int)), .int .i64 (2 + (k : Int)), .slice mo q mc] 62 (0, 0))) := HK6.out.obj hV5' (HnT.out _ _ _ hV5' (by decide))
        have HR6 : Hid (w6.drew.rangeAt wO.heap.size 0 (ints [(E1 : Int), (p0 : Int), 1 + (k : Int), 2 + (k : Int)])) := below_range (Below.refl _ _).drew (fun j u hu => by
          rw [Nat.zero_add, blk_cell HV6.out]
          match j, hu with
          | 0, hu => exact hu
          | 1, hu => exact hu
          | 2, hu => exact hu
          | 3, hu => exact hu
          | j + 4, hu => simp [ints] at hu)
        clear hV5' HnT HK6 HKa HG6
        refine wp_region_held_drew (S := (fun w' => w'.rangeAt wO.heap.size 0 (ints [(E1 : Int), (p0 : Int), 1 + (k : Int), 2 + (k : Int)]))) (by kernel_rfl) HR6.out (fun hHeld => ?_)
        simp only [Act.put, List.size_toArray, List.length_cons, List.length_nil, Nat.zero_add]
        refine wpAnyH_take (i := 0) (v := .pointer (some ⟨b, 0, none⟩)) rfl (by kernel_rfl) (by kernel_rfl) (by kernel_rfl) (fun _ _ _ h => h) (Or.inl ⟨by rfl, fun w' hS => by go_simp⟩) hHeld ?_
        simp only [Act.put, List.getElem_toArray, List.getElem_cons_zero, List.getElem_cons_succ, List.setIfInBounds_toArray, List.set_cons_zero, List.set_cons_succ]
        refine wpAnyH_take (i := 2) (v := .pointer (some ⟨wO.heap.size, 0, none⟩)) rfl (by kernel_rfl) (by kernel_rfl) (by kernel_rfl) (fun _ _ _ h => h) (Or.inl ⟨by rfl, fun w' hS => by go_simp⟩) hHeld ?_
        simp only [Act.put, List.getElem_toArray, List.getElem_cons_zero, List.getElem_cons_succ, List.setIfInBounds_toArray, List.set_cons_zero, List.set_cons_succ]
        refine wpAnyH_take (i := 3) (v := .agg (ints [(E1 : Int), (p0 : Int), 1 + (k : Int), 2 + (k : Int)]).toArray) rfl (by kernel_rfl) (by kernel_rfl) (by kernel_rfl) (fun _ _ _ h => h) (yieldsIf_load_mid (by rfl) 59 (.tmp 130) rfl wO.heap.size (0) (by rfl) (ints [(E1 : Int), (p0 : Int), 1 + (k : Int), 2 + (k : Int)]) _ (fun w' hS => hS) Try.underlying59 rfl (by rw [ints_len, (show [(E1 : Int), (p0 : Int), 1 + (k : Int), 2 + (k : Int)].length = 4 from rfl)]; exact info_vid)) hHeld ?_
        simp only [Act.put, List.getElem_toArray, List.getElem_cons_zero, List.getElem_cons_succ, List.setIfInBounds_toArray, List.set_cons_zero, List.set_cons_succ]
        refine wpAnyH_ready (rs := [1]) (by kernel_rfl) (by simp) ?_
        refine AllReadyH.cons rfl (fun K hK => ?_) AllReadyH.nil
        go_simp
        refine (Hla.out _ (HA6.out.still (Below.refl _ _).drew)).mono ?_
        rintro e w7 ⟨rfl, hb7⟩
        refine hK.out _ _ (below_range hb7 HR6.out) (fun hHeld => ?_)
        clear hK K
        refine wpAnyH_take (i := 4) (v := .bool (!(decide ([(E1 : Int), (p0 : Int), 1 + (k : Int), 2 + (k : Int)] = [(E1 : Int), (p0 : Int), 1 + (k : Int), 2 + (k : Int)])))) rfl (by kernel_rfl) (by kernel_rfl) (by kernel_rfl) (fun _ _ _ h => h) (Or.inl ⟨by rfl, fun w' hS => run_neqop 59 (.tmp 129) (.tmp 131) 59 rfl _ _ (by rfl) (by rfl) (by kernel_rfl) _ (eq_vid 9998 _ _ rfl rfl)⟩) hHeld ?_
        simp only [Act.put, List.getElem_toArray, List.getElem_cons_zero, List.getElem_cons_succ, List.setIfInBounds_toArray, List.set_cons_zero, List.set_cons_succ]
        refine wpAnyH_done (by kernel_rfl) ?_ _
        clear hHeld

        go_wp2_with (first
          | (go_at_call 32; refine (Hco.out _ (HA6.out.still (bstep (Below.refl _ _).drew hb7))).mono ?_; rintro e w8 ⟨rfl, hb8⟩)
          | fail)
        have HSn2 : sel v (ns.take (k + 1)) = X ++ [S] := by have := HSn.out; simpa using this
        refine ⟨⟨k + 1, E1, by omega, by omega, by go_num, rfl, by omega, ?_⟩, by simp [intOf]; omega⟩
        have hbb : Below w6.heap.size w6 w8 := bstep (bstep (Below.refl _ _).drew hb7) hb8
        refine ⟨⟨A', Hb'.out, Hv'.out, Hep'.out, Hen'.out, by rw [Hqu.out, HSn2]; simp, HA6.out.still hbb⟩, ?_, bstep HB6.out hbb, Hlow.out⟩
        rw [HSn2, zi_snoc, List.length_append]
        exact own_still HO6.out hbb
      | false =>
        rw [hw] at HIn HSn hqu'
        have Hqu : Hid (A'.qu = X.length) := hqu'
        have Hco : Hid (∀ V, A'.Ok V → Calls Try.prog 32 #[.pointer (some ⟨b, 0, none⟩)] V fun e w' => e = .returned (.tuple #[.int .i64 ((k : Int) + 1), .int .i64 (X.length : Int)]) ∧ Below V.heap.size V w') := fun V hV => by
          have := count_w hV
          rw [Hb'.out, Hen'.out, Hqu.out, Int.natCast_add] at this
          exact this
        clear hl' hqu' hw
        refine HIn.out.mono ?_
        rintro e w6 ⟨rfl, rfl⟩
        go_wp2_with (first
          | (go_at_call 32; refine (Hco.out _ HA5.out).mono ?_; rintro e w7 ⟨rfl, hb7⟩)
          | fail)
        have HSn2 : sel v (ns.take (k + 1)) = X := by have := HSn.out; simpa using this
        refine ⟨⟨k + 1, E1, by omega, by omega, by go_num, rfl, by omega, ?_⟩, by simp [intOf]; omega⟩
        exact ⟨⟨A', Hb'.out, Hv'.out, Hep'.out, Hen'.out, by rw [Hqu.out, HSn2], HA5.out.still hb7⟩, by rw [HSn2]; exact own_still HL5.out hb7, bstep HB5.out hb7, Hlow.out⟩
  · have hz : ¬ ((k : Int) < (nn : Int)) ∨ ¬ ((k : Int) < 40) := by omega
    have HTk : Hid (ns.take k = ns.take 40) := by
      show _ = _
      by_cases h40 : k = 40
      · rw [h40]
      · rw [List.take_of_length_le (by rw [Hln.out]; omega), List.take_of_length_le (by rw [Hln.out]; omega)]
    have HRw : Hid (Wst w v ns b k (E : Int) _ wr) := HS
    by_cases h1 : k < nn
    · have y1 : (k : Int) < (nn : Int) := by omega
      have y2 : ¬ (k : Int) < 40 := by omega
      clear hz hlt
      go_wp2
      (try simp only [Exit.inBlock, Exit.then])
      refine bodyPost_ret (results_tmp2 rfl _ _ _) rfl ?_
      exact ⟨_, rfl, by rw [← HTk.out]; exact HRw.out.row, HRw.out.bel⟩
    · have y1 : ¬ (k : Int) < (nn : Int) := by omega
      clear hz hlt
      go_wp2
      (try simp only [Exit.inBlock, Exit.then])
      refine bodyPost_ret (results_tmp2 rfl _ _ _) rfl ?_
      exact ⟨_, rfl, by rw [← HTk.out]; exact HRw.out.row, HRw.out.bel⟩
end
end Go.Proofs.Ytnmnobcikmiojaa.Qm
