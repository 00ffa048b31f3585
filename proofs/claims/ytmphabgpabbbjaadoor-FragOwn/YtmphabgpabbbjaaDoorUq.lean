import Derived.Test.YtmphabgpabbbjaaDoorUd
import Derived.Test.YtmphabgpabbbjaaDoorUe
namespace Go.Proofs.YtmphabgpabbbjaaDoor.Fg
open Go.RowKit Mb
set_option linter.unusedVariables false
set_option maxRecDepth 100000
set_option linter.unusedSimpArgs false
section
variable {w w' W : World} {B : Nat}
theorem wl_push {ops : Array Oper} {rest : List Oper} {o : Oper} {a : Act} {Q : Exit → Act → World → Prop} (hgd : o.guard = none) (s x : Operand)
    (ho : o.op = .call { callee := .builtin .append, args := #[s, x], argTypes := #[28, 28] })
    (w0 wb : World) (base : Nat) (v : Value) (xs : List Int) (y : Int) (hs : a.eval s = v) (hown : Own w0 base v xs) (hw : w = w0.alloc (.cells #[.int .u8 y] 5)) (hx : a.eval x = .slice (some ⟨w0.heap.size, 0, none⟩) 1 1)
    (hbytes : xs.length + 1 ≤ 140737488355328) (hbase : base ≤ w0.heap.size) (hbel : Below base wb w0)
    (h : ∀ v' w', Own w' base v' (xs ++ [y]) → Below base wb w' → wpList Tryd.prog ops Q rest (a.put o.dst v') w') : wpList Tryd.prog ops Q (o :: rest) a w := by
  obtain ⟨si, shi, shz0, shz1, shz2⟩ := byte_info
  subst hw
  exact wpList_append_own _ hgd s x 28 ho base 5 si (.int .u8 0) 1 1 Tryd.underlying28 shi shz0 shz1 shz2 rfl (by decide) v xs.length (byts xs) hs (World.ownsRow.alloc hown _) ⟨w0.heap.size, 0, none⟩ 1 1 [.int .u8 y] hx rfl (cell_one_new _ _ _) (by intro u hu; simp at hu; subst hu; rfl) (by unfold maxLen; omega) (by omega) (by simp; omega) fun v' w' h2 h3 _ => h v' w' (own_push rfl h2) (below_push hbel hbase hown h3)
theorem rbe_take (n k j : Nat) (h : j < k) : (be n k).take (j + 1) = (be n k).take j ++ [((n / 256 ^ (k - 1 - j) % 256 : Nat) : Int)] := by
  have hl : j < (be n k).length := by rw [be_len]; exact h
  rw [List.take_succ_eq_append_getElem hl]
  congr 2
  simp [be]
set_option maxHeartbeats 1000000 in
theorem rnumber_any {v k : Nat} (hv : v < 4294967296) (hk : k ≤ 4) : Calls Tryd.prog 36 #[.int .i64 (v : Int), .int .i64 (k : Int)] w fun e w' => ∃ r, e = .returned r ∧ Own w' w.heap.size r (be v k) ∧ Below w.heap.size w w' := by
  have hbl := be_len v k
  go_enter Tryd.func36, Tryd.ntmps36
  go_wp2
  go_loopw [5, 6] (fun r i wr => ∃ j : Nat, j ≤ k ∧ i = .int .i64 ((k : Int) - 1 - j) ∧ Hid (Own wr w.heap.size r ((be v k).take j)) ∧ Hid (Below w.heap.size w wr)) (fun _ i _ => (intOf i + 1).toNat)
  case atStart => exact ⟨0, Nat.zero_le _, by simp, own_zero _ _, Below.refl _ _⟩
  case round =>
    obtain ⟨j, hj, rfl, ho, hbel⟩ := hrel
    have hlt4 : ((be v k).take j).length ≤ 4 := by rw [List.length_take]; omega
    by_cases hlt : j < k
    · have g0 : (0 : Int) ≤ (k : Int) - 1 - j := by omega
      obtain ⟨t, ht⟩ : ∃ t : Nat, k - 1 - j = t := ⟨_, rfl⟩
      have hti : (k : Int) - 1 - (j : Int) = (t : Int) := by omega
      have ht4 : t ≤ 3 := by omega
      have Hb : Hid ((be v k).take (j + 1) = (be v k).take j ++ [((v / 256 ^ t % 256 : Nat) : Int)]) := (show _ = _ from by rw [rbe_take v k j hlt, ht])
      have Hnx : Hid ((k : Int) - 1 - ((j + 1 : Nat) : Int) = (t : Int) - 1) := (show _ = _ from by omega)
      rw [hti]
      clear g0 hti ht hbl
      go_wp2
      go_loop [7, 8] (fun x i => ∃ d : Nat, d ≤ t ∧ i = .int .i64 (d : Int) ∧ x = .int .i64 ((v / 256 ^ d : Nat) : Int)) (fun _ i => t - (intOf i).toNat)
      case atStart => exact ⟨0, Nat.zero_le _, rfl, by simp⟩
      case round =>
        obtain ⟨d, hd, rfl, rfl⟩ := hrel
        have hp0 : (0 : Int) ≤ ((v / 256 ^ d : Nat) : Int) := Int.natCast_nonneg _
        have hp1 : ((v / 256 ^ d : Nat) : Int) ≤ 4294967296 := by have := Nat.div_le_self v (256 ^ d); omega
        by_cases hdl : d < t
        · have hq : ((v / 256 ^ d : Nat) : Int) / 256 = ((v / 256 ^ (d + 1) : Nat) : Int) := by rw [Nat.pow_succ, ← Nat.div_div_eq_div_mul]; omega
          generalize ((v / 256 ^ d : Nat) : Int) = X at *
          have HY : Hid (X / 256 = ((v / 256 ^ (d + 1) : Nat) : Int)) := hq
          clear hq
          go_wp2
          go_round
          case rel => exact ⟨d + 1, by omega, by go_num, by rw [HY.out]⟩
          case measure => simp [intOf]; omega
        · obtain rfl : d = t := by omega
          obtain ⟨y, hy⟩ : ∃ y : Int, ((v / 256 ^ d : Nat) : Int) % 256 = y := ⟨_, rfl⟩
          have Hy : Hid (((v / 256 ^ d % 256 : Nat) : Int) = y) := (show _ = _ from by rw [← hy]; omega)
          have hy0 : 0 ≤ y := by omega
          have hy1 : y < 256 := by omega
          generalize ((v / 256 ^ d : Nat) : Int) = X at *
          go_wp2_with (first
            | (at_builtin; refine wl_push rfl _ _ rfl wr w w.heap.size _ _ y rfl ho.out rfl rfl (by omega) hbel.out.size hbel.out ?_)
            | fail)
          intro r2 w2 ho2 hb2
          have HO : Hid (Own w2 w.heap.size r2 ((be v k).take (j + 1))) := (show Own w2 w.heap.size r2 ((be v k).take (j + 1)) from by rw [Hb.out, Hy.out]; exact ho2)
          have HB : Hid (Below w.heap.size w w2) := hb2
          clear ho2 hb2 ho hbel
          go_wp2
          go_roundw
          case rel => exact ⟨j + 1, by omega, by rw [Hnx.out], HO, HB⟩
          case measure => simp [intOf]
    · obtain rfl : j = k := by omega
      have g0 : ¬ (0 : Int) ≤ (j : Int) - 1 - j := by omega
      have HO : Hid (Own wr w.heap.size u5 (be v j)) := (show Own wr w.heap.size u5 (be v j) from by have := ho.out; rw [List.take_of_length_le (by omega)] at this; exact this)
      have hm : (j : Int) - 1 - (j : Int) = -1 := by omega
      rw [hm]
      clear ho g0 hm
      go_wp2
      go_ret
      exact ⟨_, rfl, HO.out, hbel.out⟩
theorem own_block_lt {base g c n : Nat} {bs : List Int} (h : Own w base (.slice (some ⟨g, 0, none⟩) n c) bs) : base ≤ g ∧ g < w.heap.size := World.ownsRow.lt h g rfl
theorem own_grown_other {w1 w3 w4 : World} {b1 b2 : Nat} {v1 v2 : Value} {x1 x2 : List Int} (h1 : Own w1 b1 v1 x1) (hb : w1.heap.size ≤ b2) (h2 : Own w3 b2 v2 x2) (hg : w3.grownBy w4 v1.ownBlock) : Own w4 b2 v2 x2 :=
  h2.keep (Kept.ofGrown hg) fun g hg2 he => by
    have l1 := h1.lt g he.symm
    have l2 := h2.lt g hg2
    omega
set_option maxHeartbeats 2000000 in
theorem rchunk_any {ao : Option Addr} {n c k : Nat} {b : List Int} (hr : Rd w ao n c b) (hn : n ≤ 4000) (hk : k < 17) : Calls Tryd.prog 31 #[.slice ao n c, .int .i64 ((k * 248 : Nat) : Int)] w fun e w' => ∃ r, e = .returned r ∧ Own w' w.heap.size r (chunk b k) ∧ Below w.heap.size w w' := by
  have hl := hr.len
  have hcr := crc_lt hr.by_
  have Hr : Hid (Rd w ao n c b) := hr
  have HSum : Hid (Calls Tryd.prog 35 #[.slice ao n c] w fun e w' => e = .returned (.int .i64 ((crc b : Nat) : Int)) ∧ w = w') := rsum_any hr (by omega)
  clear hr
  obtain ⟨q, hq⟩ : ∃ q, crc b = q := ⟨_, rfl⟩
  rw [hq] at HSum hcr
  obtain ⟨p, hp⟩ : ∃ p, k * 248 = p := ⟨_, rfl⟩
  rw [hp]
  have hp16 : p < 65536 := by omega
  have N1 : Hid (Calls Tryd.prog 36 #[.int .i64 (n : Int), .int .i64 2] w fun e w' => ∃ r, e = .returned r ∧ Own w' w.heap.size r (be n 2) ∧ Below w.heap.size w w') := rnumber_any (v := n) (k := 2) (by omega) (by omega)
  have N2 : Hid (∀ W', Calls Tryd.prog 36 #[.int .i64 (p : Int), .int .i64 2] W' fun e w' => ∃ r, e = .returned r ∧ Own w' W'.heap.size r (be p 2) ∧ Below W'.heap.size W' w') := fun W' => rnumber_any (v := p) (k := 2) (by omega) (by omega)
  have N3 : Hid (∀ W', Calls Tryd.prog 36 #[.int .i64 (q : Int), .int .i64 4] W' fun e w' => ∃ r, e = .returned r ∧ Own w' W'.heap.size r (be q 4) ∧ Below W'.heap.size W' w') := fun W' => rnumber_any (v := q) (k := 4) (by omega) (by omega)
  go_enter Tryd.func31, Tryd.ntmps31
  go_wp2_with (first | (go_at_call 35; refine HSum.out.mono ?_; rintro e w2 ⟨rfl, rfl⟩) | fail)
  refine N1.out.mono ?_
  rintro e w1 ⟨r1, rfl, ho1, hb1⟩
  go_wp2_with fail
  refine (N2.out _).mono ?_
  rintro e w2 ⟨r2, rfl, ho2, hb2⟩
  go_wp2_with fail
  refine (N3.out _).mono ?_
  rintro e w3 ⟨r3, rfl, ho3, hb3⟩
  have HB3 : Hid (Below w.heap.size w w3) := bstep (bstep hb1 hb2) hb3
  have hs1 := hb1.size
  have hs2 := hb2.size
  have hs3 := hb3.size
  obtain ⟨a2, c2, rfl, _⟩ := ho2.shape
  obtain ⟨a3, c3, rfl, _⟩ := ho3.shape
  rw [be_len] at ho2 ho3
  rw [be_len, be_len]
  have R2 : Hid (Rd w3 a2 2 c2 (be p 2)) := (Own.still ho2 hb3).rd (be_by _ _)
  have Ho1 : Hid (Own w3 w.heap.size r1 (be n 2)) := ho1.still (bstep hb2 hb3)
  have H1o : Hid (Own w1 w.heap.size r1 (be n 2)) := ho1
  have H3 : Hid (Own w3 w2.heap.size (.slice a3 4 c3) (be q 4)) := ho3
  clear ho1 ho2 ho3 hb1 hb2 hb3 N1 N2 N3 HSum
  go_wp2_with (first
    | (at_builtin; refine wpList_append_rd rfl _ _ rfl w.heap.size _ (be n 2) (be p 2) rfl Ho1.out _ _ _ rfl R2.out (by rw [be_len]; omega) (by omega) ?_)
    | fail)
  intro v4 w4 ho4 hg4
  have H3' : Hid (Own w4 w2.heap.size (.slice a3 4 c3) (be q 4)) := own_grown_other H1o.out hs2 H3.out hg4
  have R3 : Hid (Rd w4 a3 4 c3 (be q 4)) := H3'.out.rd (be_by _ _)
  have HB4 : Hid (Below w.heap.size w w4) := HB3.out.grown hg4 (by omega) (fun g hg => (Ho1.out.lt g hg).1)
  have Ho4 : Hid (Own w4 w.heap.size v4 (be n 2 ++ be p 2)) := ho4
  clear ho4 hg4 H3 H3' H1o Ho1 R2 HB3
  go_wp2_with (first
    | (at_builtin; refine wpList_append_rd rfl _ _ rfl w.heap.size _ (be n 2 ++ be p 2) (be q 4) rfl Ho4.out _ _ _ rfl R3.out (by rw [List.length_append, be_len, be_len]; omega) HB4.out.size ?_)
    | fail)
  intro v5 w5 ho5 hg5
  have HB5 : Hid (Below w.heap.size w w5) := HB4.out.grown hg5 HB4.out.size (fun g hg => (Ho4.out.lt g hg).1)
  have Ho5 : Hid (Own w5 w.heap.size v5 (be n 2 ++ be p 2 ++ be q 4 ++ (b.drop p).take 0)) := (show Own w5 w.heap.size v5 (be n 2 ++ be p 2 ++ be q 4 ++ (b.drop p).take 0) from by simpa using ho5)
  clear ho5 hg5 R3 HB4 Ho4
  go_wp2
  go_loopw [6, 9] (fun v i wr => ∃ j : Nat, (j ≤ 248 ∧ (j = 0 ∨ p + j ≤ n)) ∧ i = .int .i64 ((p + j : Nat) : Int) ∧ Hid (Own wr w.heap.size v (be n 2 ++ be p 2 ++ be q 4 ++ (b.drop p).take j)) ∧ Hid (Below w.heap.size w wr)) (fun _ i _ => n + p + 248 - (intOf i).toNat)
  case atStart => exact ⟨0, ⟨by omega, .inl rfl⟩, rfl, Ho5, HB5⟩
  case round =>
    obtain ⟨j, ⟨hj, hj2⟩, rfl, ho, hbel⟩ := hrel
    have hlen : ((be n 2 ++ be p 2 ++ be q 4 ++ (b.drop p).take j)).length ≤ 300 := by simp only [List.length_append, be_len, List.length_take]; omega
    by_cases h1 : j < 248
    · by_cases h2 : p + j < n
      · have hat := (Hr.out.still hbel.out).at_
        rcases hat with h0 | ⟨bb, off, hao, hc⟩
        · omega
        · have hcx := hc (p + j) h2
          have hbx := Hr.out.by_ (p + j)
          have Hnx : Hid ((b.drop p).take (j + 1) = (b.drop p).take j ++ [b.getD (p + j) 0]) := (show _ = _ from by
            have hdl : j < (b.drop p).length := by rw [List.length_drop]; omega
            rw [List.take_succ_eq_append_getElem hdl]
            congr 2
            simp [List.getD, show p + j < b.length by omega])
          have t1 : ((p + j : Nat) : Int) < (p : Int) + 248 := by omega
          have t2 : ((p + j : Nat) : Int) < (n : Int) := by omega
          have t3 : (0 : Int) ≤ ((p + j : Nat) : Int) := by omega
          subst hao
          generalize b.getD (p + j) 0 = y at *
          generalize hpj : p + j = pj at *
          have HQ : Hid (pj + 1 = p + (j + 1)) := (show _ = _ from by omega)
          clear hc
          go_wp2_with (first
            | (at_builtin; refine wl_push rfl _ _ rfl wr w w.heap.size _ _ y rfl ho.out rfl rfl (by omega) hbel.out.size hbel.out ?_)
            | fail)
          intro r6 w6 ho6 hb6
          have HO : Hid (Own w6 w.heap.size r6 (be n 2 ++ be p 2 ++ be q 4 ++ (b.drop p).take (j + 1))) := (show Own w6 w.heap.size r6 (be n 2 ++ be p 2 ++ be q 4 ++ (b.drop p).take (j + 1)) from by rw [Hnx.out, ← List.append_assoc]; exact ho6)
          have HB : Hid (Below w.heap.size w w6) := hb6
          clear ho6 hb6 ho hbel
          go_wp2
          go_roundw
          case rel => exact ⟨j + 1, ⟨by omega, .inr (by omega)⟩, by rw [← HQ.out]; go_num, HO, HB⟩
          case measure => simp [intOf]; omega
      · have t1 : ((p + j : Nat) : Int) < (p : Int) + 248 := by omega
        have t2 : ¬ ((p + j : Nat) : Int) < (n : Int) := by omega
        have HF : Hid (Own wr w.heap.size u6 (chunk b k)) := (show Own wr w.heap.size u6 (chunk b k) from by
          have h3 := ho.out
          have e : (b.drop p).take j = (b.drop p).take 248 := by
            first
              | rw [show j = 248 by omega]
              | rw [List.take_of_length_le (by rw [List.length_drop]; omega), List.take_of_length_le (by rw [List.length_drop]; omega)]
          rw [e] at h3
          unfold chunk
          rw [hl, hp, hq]
          simpa using h3)
        have hpj0 : (0 : Int) ≤ ((p + j : Nat) : Int) := by omega
        generalize ((p + j : Nat) : Int) = pj at *
        clear ho
        go_wp2
        go_ret
        exact ⟨_, rfl, HF.out, hbel.out⟩
    · have t1 : ¬ ((p + j : Nat) : Int) < (p : Int) + 248 := by omega
      have HF : Hid (Own wr w.heap.size u6 (chunk b k)) := (show Own wr w.heap.size u6 (chunk b k) from by
        have h3 := ho.out
        have e : (b.drop p).take j = (b.drop p).take 248 := by
          first
            | rw [show j = 248 by omega]
            | rw [List.take_of_length_le (by rw [List.length_drop]; omega), List.take_of_length_le (by rw [List.length_drop]; omega)]
        rw [e] at h3
        unfold chunk
        rw [hl, hp, hq]
        simpa using h3)
      generalize ((p + j : Nat) : Int) = pj at *
      clear ho
      go_wp2
      go_ret
      exact ⟨_, rfl, HF.out, hbel.out⟩
end
end Go.Proofs.YtmphabgpabbbjaaDoor.Fg
