import Derived.Test.YthanifbimndhaaaM1
namespace Go.Proofs.Ythanifbimndhaaa.Ln
set_option maxHeartbeats 40000000
open Go.RowKit Mb
set_option linter.unusedVariables false
set_option maxRecDepth 100000
set_option linter.unusedSimpArgs false
section
variable {w w' W : World} {B : Nat} {S S' : St}
theorem ring_ra (S : St) : ∃ ra, S.ring = .slice ra S.L S.L /\ (0 < S.L -> ra = some ⟨S.rb, 0, none⟩) := ⟨_, rfl, fun h => if_neg (by omega)⟩
def St.wid (S : St) (M g i : Nat) : St := { p := S.p, L := M, rb := g, f := fun n => if S.p < n /\ n ≤ S.p + S.L /\ n % S.L < i then S.f n else none }
theorem set_row2 (h : Fb w S.rb 127 (S.L * 2) S.rf) {n : Nat} (h1 : S.p < n) (h2 : n ≤ S.p + S.L) (b : Bd) : Fb (w.setCells S.rb (n % S.L * 2) [.int .i64 (n : Int), b.v]) S.rb 127 (S.L * 2) (S.set n b).rf := by
 refine (Fb.sets _ _ _ _ h).congr fun j hj => rf_ext rfl (fun i hi hl => ?_) ?_ hj
 ·have : nm S.p S.L i ≠ n := by intro e; rw [<- e, nm_res hl] at hi; exact hi rfl
  unfold St.cs St.set
  simp only
  rw [upd_ne _ _ this]
 ·unfold St.cs St.set
  simp only
  rw [nm_mod h1 h2, upd_same]
  rfl
theorem wid_zero (M g : Nat) (j : Nat) : (S.wid M g 0).rf j = [Value.int .i64 0, .slice none 0 0].getD (j % 2) undef := by
 unfold St.rf St.cs St.wid
 simp only [Nat.not_lt_zero, and_false, if_false]
 rfl
theorem wid_none {M g i : Nat} (hi : i < S.L) (hn : S.f (nm S.p S.L i) = none) : S.wid M g (i + 1) = S.wid M g i := by
 unfold St.wid
 congr 1
 funext n
 by_cases h : S.p < n /\ n ≤ S.p + S.L
 ·by_cases e : n % S.L = i
  ·have : S.f n = none := by rw [<- e, nm_mod h.1 h.2] at hn; exact hn
   rw [this]; simp
  ·simp only [show n % S.L < i + 1 ↔ n % S.L < i by omega]
 ·rw [if_neg (by omega), if_neg (by omega)]
theorem wid_some {M g i : Nat} {b : Bd} (hi : i < S.L) (hn : S.f (nm S.p S.L i) = some b) : S.wid M g (i + 1) = (S.wid M g i).set (nm S.p S.L i) b := by
 unfold St.wid St.set
 congr 1
 funext n
 have g1 := nm_gt S.p S.L i
 have g2 := nm_le (p := S.p) i (show 0 < S.L by omega)
 have g3 := nm_res (p := S.p) hi
 by_cases e0 : n = nm S.p S.L i
 ·rw [e0, upd_same, if_pos ⟨g1, g2, by omega⟩, hn]
 ·rw [upd_ne _ _ e0]
  by_cases h : S.p < n /\ n ≤ S.p + S.L
  ·have : n % S.L ≠ i := by intro e; exact e0 (by rw [<- nm_mod h.1 h.2, e])
   simp only [show n % S.L < i + 1 ↔ n % S.L < i by omega]
  ·rw [if_neg (by omega)]; exact (if_neg (by omega)).symm
theorem wid_all (h : S.Ok w B) {M g : Nat} : S.wid M g S.L = { S with L := M, rb := g } := by
 unfold St.wid
 congr 1
 funext n
 by_cases hh : S.p < n /\ n ≤ S.p + S.L
 ·rw [if_pos ⟨hh.1, hh.2, Nat.mod_lt _ (by omega)⟩]
 ·rw [if_neg (by omega)]
  by_cases e : n ≤ S.p
  ·exact (h.none_le e).symm
  ·exact (h.none_gt (by omega)).symm
theorem cs_one (n : Int) (o : Option Bd) : ∀ u ∈ [Value.int .i64 n, thV o], u.oneCell' = true := by
 intro u hu
 simp at hu
 rcases hu with rfl | rfl
 ·rfl
 ·cases o <;> rfl
structure WidO (w w' : World) (S : St) (q : Nat) (e : Ending) : Prop where
 out : ∃ M, q ≤ M /\ M ≤ 40000 /\ e = .returned (.slice (some ⟨w.heap.size, 0, none⟩) M M) /\ Fb w' w.heap.size 127 (M * 2) ({ S with L := M, rb := w.heap.size } : St).rf /\ Below w.heap.size w w'
theorem wid_any {q : Nat} (h : S.Ok w B) (hq : S.L < q) (hq2 : q ≤ 20000) (hp : S.p ≤ 4611686018427387904) : Calls Try.prog 84 #[S.ring, .int .i64 (q : Int)] w fun e w' => WidO w w' S q e := by
 obtain ⟨ra, hra, hra2⟩ := ring_ra S
 rw [hra]
 obtain ⟨M, hM⟩ : ∃ M, max q (2 * S.L) = M := ⟨_, rfl⟩
 have hM1 : q ≤ M := by omega
 have hM2 : M ≤ 40000 := by omega
 have hif : (if (q : Int) < 2 * (S.L : Int) then 2 * (S.L : Int) else (q : Int)) = (M : Int) := by omega
 have Hra : Hid (0 < S.L -> ra = some ⟨S.rb, 0, none⟩) := hra2
 have Hh : Hid (S.Ok w B) := h
 clear h hra2 hra hM
 have HF : Hid (∀ w1, Below w.heap.size w w1 -> Fb w1 w.heap.size 127 (M * 2) (fun j => [Value.int .i64 0, .slice none 0 0].getD (j % 2) undef) -> Fb w1 w.heap.size 127 (M * 2) (S.wid M w.heap.size 0).rf) := fun w1 hb hf => hf.congr fun i hi => (wid_zero _ _ _).symm
 have hle := Hh.out.le
 generalize hL : S.L = L at *
 have HL : Hid (S.L = L) := hL
 clear hL
 go_enter Try.func84, Try.ntmps84
 go_wp2_with (first | (at_make; refine wl_makeC rfl _ _ rfl _ _ M rfl rfl rfl rfl (by omega) ?_) | fail)
 intro w1 hf1 hb1
 have HF1 : Hid (Fb w1 w.heap.size 127 (M * 2) (S.wid M w.heap.size 0).rf) := HF.out w1 hb1 hf1
 have HB1 : Hid (Below w.heap.size w w1) := hb1
 clear hf1 hb1 HF hif
 generalize hgw : w.heap.size = g at *
 have Hgw : Hid (w.heap.size = g) := hgw
 clear hgw
 go_wp2
 go_loopw [7, 16] (fun v7 v16 wr => ∃ i : Nat, i ≤ L /\ v16 = .int .i64 (i : Int) /\ Hid (Below g w wr) /\ Hid (Fb wr g 127 (M * 2) (S.wid M g i).rf)) (fun _ v16 _ => L - (intOf v16).toNat)
 case atStart => exact ⟨0, Nat.zero_le _, rfl, HB1, HF1⟩
 case round =>
  obtain ⟨i, hi, rfl, hb, hf⟩ := hrel
  by_cases hlt : i < L
  ·have hra := Hra.out (by omega)
   subst hra
   have hLp : 0 < S.L := by rw [HL.out]; omega
   have hn1 := nm_gt S.p L i
   have hn2 := nm_le (p := S.p) i (show 0 < L by omega)
   have hfr := (Hh.out.row hLp).1
   have hwr : Fb wr S.rb 127 (S.L * 2) S.rf := hfr.keep (Kept.ofBelow (hb.out.mono (by rw [<- Hgw.out]; exact Nat.le_refl _)) (fun _ => False)) id
   have HB : Hid (Below g w wr) := hb
   have c0 := St.cell_no hwr (i := i) (by rw [HL.out]; exact hlt)
   have c1 := St.cell_th hwr (i := i) (by rw [HL.out]; exact hlt)
   rw [HL.out] at c0 c1
   have i1 : (0 : Int) ≤ (i : Int) := Int.natCast_nonneg _
   have i2 : (i : Int) < (L : Int) := by omega
   clear hb hwr hfr hLp
   cases hfm : S.f (nm S.p L i) with
   | none =>
    rw [hfm] at c0 c1
    have HN : Hid (Fb wr g 127 (M * 2) (S.wid M g (i + 1)).rf) := (show Fb _ _ _ _ _ from by rw [wid_none (by rw [HL.out]; exact hlt) (by rw [HL.out]; exact hfm)]; exact hf.out)
    have c0' : wr.cell? ⟨S.rb, i * 2, none⟩ = some (.int .i64 0) := c0
    have c1' : wr.cell? ⟨S.rb, i * 2 + 1, none⟩ = some (.slice none 0 0) := c1
    clear c0 c1 hfm hf
    go_wp2
    have hsz : g ≤ wr.heap.size := by have := HB.out.size; rw [Hgw.out] at this; exact this
    exact ⟨⟨i + 1, by omega, by go_num, HB.out.alloc hsz _, HN.out.keep (Kept.ofBelow (balloc (Below.refl _ _)) (fun _ => False)) id⟩, by simp [intOf]; omega⟩
   | some b =>
    rw [hfm] at c0 c1
    have Hfm : Hid (S.f (nm S.p L i) = some b) := hfm
    have HW2 : Hid (∀ w', Kept wr w' (fun j => j = g) -> Fb w' g 127 (M * 2) ((S.wid M g i).set (nm S.p L i) b).rf -> Fb w' g 127 (M * 2) (S.wid M g (i + 1)).rf) := fun w' _ hh => by rw [wid_some (by rw [HL.out]; exact hlt) (by rw [HL.out]; exact hfm), HL.out]; exact hh
    have hsz : Hid (g ≤ wr.heap.size) := (show g ≤ wr.heap.size from by have := HB.out.size; rw [Hgw.out] at this; exact this)
    have Hf : Hid (Fb wr g 127 (M * 2) (S.wid M g i).rf) := hf
    obtain ⟨m, hm⟩ : ∃ m, nm S.p L i = m := ⟨_, rfl⟩
    rw [hm] at c0 hn1 hn2 HW2
    obtain ⟨bk, hbk⟩ : ∃ bk, b.k = bk := ⟨_, rfl⟩
    obtain ⟨bl, hbl⟩ : ∃ bl, b.bs.length = bl := ⟨_, rfl⟩
    have Hbv : Hid (b.v = .slice (some ⟨bk, 0, none⟩) bl bl) := (show b.v = _ from by unfold Bd.v; rw [hbk, hbl])
    have c0' : wr.cell? ⟨S.rb, i * 2, none⟩ = some (.int .i64 (m : Int)) := c0
    have c1' : wr.cell? ⟨S.rb, i * 2 + 1, none⟩ = some (.slice (some ⟨bk, 0, none⟩) bl bl) := by rw [c1]; exact congrArg some Hbv.out
    clear c0 c1 hfm hf hm hbk hbl
    have m0 : (0 : Int) < (m : Int) := by omega
    generalize hV : wr.alloc (.cells #[.int .i64 (m : Int), .slice (some ⟨bk, 0, none⟩) bl bl] 127) = V
    have HBV : Hid (Below wr.heap.size wr V) := (show Below _ _ _ from by rw [<- hV]; exact balloc (Below.refl _ _))
    have hkd : V.heap[wr.heap.size]? = some (.cells #[.int .i64 (m : Int), .slice (some ⟨bk, 0, none⟩) bl bl] 127 (0, 0)) := by rw [<- hV]; exact heap_alloc_new _ _
    have x0 : V.cell? ⟨wr.heap.size, 0, none⟩ = some (.int .i64 (m : Int)) := bC hkd 0
    have x1 : V.cell? ⟨wr.heap.size, 1, none⟩ = some (.slice (some ⟨bk, 0, none⟩) bl bl) := bC hkd 1
    have HP : Hid (∀ w', Calls Try.prog 83 #[.slice (some ⟨g, 0, none⟩) M M, .int .i64 (m : Int)] w' fun e w2 => e = .returned (.pointer (some ⟨g, m % M * 2, none⟩)) /\ w' = w2) := fun w' => place_any (by omega) (by omega) hM2
    have HfV : Hid (Fb V g 127 (M * 2) (S.wid M g i).rf) := (show Fb _ _ _ _ _ from Hf.out.keep (Kept.ofBelow HBV.out (fun _ => False)) id)
    have HfD : Hid (Fb V.drew g 127 (M * 2) (S.wid M g i).rf) := (show Fb _ _ _ _ _ from HfV.out.keep (Kept.ofBelow (Below.refl _ _).drew (fun _ => False)) id)
    have hmM : m % M < M := Nat.mod_lt _ (by omega)
    have HT : Hid (V.drew.there g (m % M * 2) 2) := HfD.out.there _ _ (by omega)
    have HO1 : Hid (∀ u ∈ [Value.int .i64 (m : Int), .slice (some ⟨bk, 0, none⟩) bl bl], u.oneCell' = true) := (show ∀ u ∈ [Value.int .i64 (m : Int), .slice (some ⟨bk, 0, none⟩) bl bl], u.oneCell' = true from by intro u hu; simp at hu; rcases hu with rfl | rfl <;> rfl)
    have hgkd : g ≠ wr.heap.size := by
     have := (show g < wr.heap.size from Hf.out.lt)
     omega
    have HX : Hid ((V.drew.setCells g (m % M * 2) [.int .i64 (m : Int), .slice (some ⟨bk, 0, none⟩) bl bl]).cell? ⟨wr.heap.size, 0, none⟩ = some (.int .i64 (m : Int)) /\ (V.drew.setCells g (m % M * 2) [.int .i64 (m : Int), .slice (some ⟨bk, 0, none⟩) bl bl]).cell? ⟨wr.heap.size, 1, none⟩ = some (.slice (some ⟨bk, 0, none⟩) bl bl)) := (show _ /\ _ from
     ⟨kC (ksets (P := fun j => j = g) rfl _ _ _) (fun e => hgkd e.symm) (bA (Below.refl _ _).drew x0), kC (ksets (P := fun j => j = g) rfl _ _ _) (fun e => hgkd e.symm) (bA (Below.refl _ _).drew x1)⟩)
    have HE : Hid (Below g w (V.drew.setCells g (m % M * 2) [.int .i64 (m : Int), .slice (some ⟨bk, 0, none⟩) bl bl]) /\ Fb (V.drew.setCells g (m % M * 2) [.int .i64 (m : Int), .slice (some ⟨bk, 0, none⟩) bl bl]) g 127 (M * 2) (S.wid M g (i + 1)).rf) := (show _ /\ _ from by
     have hb1 : Below w.heap.size w V := by
      have := HB.out
      rw [<- Hgw.out] at this
      exact this.trans (HBV.out.mono (by have := HB.out.size; omega))
     have e1 : Below w.heap.size w (V.drew.setCells g (m % M * 2) [.int .i64 (m : Int), .slice (some ⟨bk, 0, none⟩) bl bl]) := bsets (by rw [Hgw.out]; exact Nat.le_refl _) _ _ (hb1.trans ((Below.refl _ _).drew.mono hb1.size))
     refine ⟨by rw [<- Hgw.out]; rw [<- Hgw.out] at e1; exact e1, ?_⟩
     have kk : Kept wr (V.drew.setCells g (m % M * 2) [.int .i64 (m : Int), .slice (some ⟨bk, 0, none⟩) bl bl]) (fun j => j = g) := ((Kept.ofBelow HBV.out _).trans (Kept.ofBelow (Below.refl _ _).drew _)).trans (ksets (P := fun j => j = g) rfl _ _ _)
     refine HW2.out _ kk ?_
     have e2 := set_row2 (S := S.wid M g i) HfD.out (n := m) hn1 (by show m ≤ S.p + M; omega) b
     rw [Hbv.out] at e2
     exact e2)
    clear hkd hn1 hn2
    go_wp2
    refine wp_region_held_drew (S := (fun w' => w'.cell? ⟨wr.heap.size, 0, none⟩ = some (.int .i64 (m : Int)) /\ w'.cell? ⟨wr.heap.size, 1, none⟩ = some (.slice (some ⟨bk, 0, none⟩) bl bl))) (by kernel_rfl) ⟨bA (Below.refl _ _).drew x0, bA (Below.refl _ _).drew x1⟩ (fun hH => ?_)
    simp only [Act.put, lA, lC, lN, zA]
    refine wG 0 (.slice (some ⟨g, 0, none⟩) M M) rfl hH ?_
    simp only [aP, gA, gZ, gC, sA, sZ, sC]
    refine wG 1 (.pointer (some ⟨wr.heap.size, 0, none⟩)) rfl hH ?_
    simp only [aP, gA, gZ, gC, sA, sZ, sC]
    refine wL 2 (.int .i64 (m : Int)) rfl hH ?_
    simp only [aP, gA, gZ, gC, sA, sZ, sC]
    refine wL 4 (.agg #[.int .i64 (m : Int), .slice (some ⟨bk, 0, none⟩) bl bl]) rfl hH ?_
    simp only [aP, gA, gZ, gC, sA, sZ, sC]
    refine rY 3 rfl fun K hK => ?_
    go_simp
    refine (HP.out _).mono ?_
    rintro e w2 ⟨rfl, rfl⟩
    refine hK.out _ _ ⟨bA (Below.refl _ _).drew x0, bA (Below.refl _ _).drew x1⟩ (fun hH => ?_)
    clear hK K
    refine wG 5 (.pointer (some ⟨g, m % M * 2, none⟩)) rfl hH ?_
    simp only [aP, gA, gZ, gC, sA, sZ, sC]
    refine rY 6 rfl fun K hK => ?_
    refine step_storeL rfl 127 (.tmp 28) (.tmp 27) rfl (L := [.int .i64 (m : Int), .slice (some ⟨bk, 0, none⟩) bl bl]) rfl rfl HT.out info_cell HO1.out ?_
    refine hK.out _ _ (by exact HX.out) (fun hH => ?_)
    clear hK K
    refine wpAnyH_done (by kernel_rfl) ?_ _
    clear hH
    go_wp2
    exact ⟨⟨i + 1, by omega, by go_num, HE.out.1, HE.out.2⟩, by simp [intOf]; omega⟩
  ·obtain rfl : i = L := by omega
   have HFE : Hid (Fb wr g 127 (M * 2) ({ S with L := M, rb := g } : St).rf) := (show Fb _ _ _ _ _ from by have := hf.out; rw [<- HL.out, wid_all Hh.out] at this; exact this)
   have HB : Hid (Below g w wr) := hb
   clear hb hf
   go_wp2
   go_ret
   exact ⟨⟨M, hM1, hM2, (by simp [Hgw.out]), by rw [Hgw.out]; exact HFE.out, by rw [Hgw.out]; exact HB.out⟩⟩
end
section
variable {w w' W : World} {B : Nat} {S S' : St}
theorem St.Ok.ne_t (h : S.Ok w B) {eb t : Nat} {cs : Array Value} (hE : w.heap[eb]? = some (.cells cs t (0, 0))) (h1 : t ≠ 127) (h2 : t ≠ 5) : ¬ S.own eb := by
 rintro (⟨hL, rfl⟩ | ⟨n, b, hb, rfl⟩)
 ·obtain ⟨C, hC, _⟩ := (h.row hL).1
  exact blk_ne hC hE (fun e => h1 e.symm) rfl
 ·exact bk_ne (h.el n b hb).bk hE h2 rfl
structure PutO (w w' : World) (B : Nat) (S : St) (eb off n : Nat) (b : Bd) (cs : Array Value) : Prop where
 out : ∃ M g cs', ({ p := S.p, L := M, rb := g, f := upd S.f n (some b) } : St).Ok w' B /\ 0 < M /\ n ≤ S.p + M /\ ((M = S.L /\ g = S.rb) ∨ w.heap.size ≤ g) /\ w'.heap[eb]? = some (.cells cs' 100 (0, 0)) /\ cs'.size = cs.size /\ cs'[off + 1]? = some ({ p := S.p, L := M, rb := g, f := upd S.f n (some b) } : St).ring /\ (∀ i, i ≠ off + 1 -> cs'[i]? = cs[i]?) /\ Kept w w' (fun j => j = eb ∨ (0 < S.L /\ j = S.rb))
theorem put_in {eb off n : Nat} {b : Bd} {cs : Array Value} (h : S.Ok w B) (hE : w.heap[eb]? = some (.cells cs 100 (0, 0))) (hp : cs[off]? = some (.int .i64 (S.p : Int))) (hr : cs[off + 1]? = some S.ring) (h1 : S.p < n) (h2 : n ≤ S.p + S.L) (h3 : n ≤ 4611686018427387904) (hb : Body w B b) (hn : ¬ S.own b.k) : Calls Try.prog 71 #[.pointer (some ⟨eb, off, none⟩), .int .i64 (n : Int), b.v] w fun e w' => e = .returned (.tuple #[]) /\ PutO w w' B S eb off n b cs := by
 have hL : 0 < S.L := by omega
 have hle := h.le
 have c0 : w.cell? ⟨eb, off, none⟩ = some (.int .i64 (S.p : Int)) := (bC hE off).trans hp
 have c1 : w.cell? ⟨eb, off + 1, none⟩ = some S.ring := (bC hE (off + 1)).trans hr
 rw [ring_pos hL] at c1
 have HP : Hid (Calls Try.prog 83 #[.slice (some ⟨S.rb, 0, none⟩) S.L S.L, .int .i64 (n : Int)] w fun e w' => e = .returned (.pointer (some ⟨S.rb, n % S.L * 2, none⟩)) /\ w = w') := place_any hL (by omega) hle
 have hm : n % S.L < S.L := Nat.mod_lt _ hL
 have HT : Hid (w.there S.rb (n % S.L * 2) 2) := (h.row hL).1.there _ _ (by omega)
 have HO1 : Hid (∀ u ∈ [Value.int .i64 (n : Int), b.v], u.oneCell' = true) := (show ∀ u ∈ [Value.int .i64 (n : Int), b.v], u.oneCell' = true from cs_one n (some b))
 have HE : Hid (PutO w (w.setCells S.rb (n % S.L * 2) [.int .i64 (n : Int), b.v]) B S eb off n b cs) := by
  have hs := h.set hL h1 h2 hb hn
  have hne := h.ne_t hE (by decide) (by decide)
  refine ⟨⟨S.L, S.rb, cs, hs, hL, h2, .inl ⟨rfl, rfl⟩, ?_, rfl, hr, fun i _ => rfl, (ksets (P := fun j => j = S.rb) rfl _ _ _).mono fun j _ hj => .inr ⟨hL, hj⟩⟩⟩
  exact (ksets (P := fun j => j = S.rb) rfl _ _ _).obj hE (fun e => hne (.inl ⟨hL, e⟩))
 have hlt : decide ((S.L : Int) < (n : Int) - (S.p : Int)) = false := by rw [decide_eq_false_iff_not]; omega
 obtain ⟨bk, hbk⟩ : ∃ bk, b.k = bk := ⟨_, rfl⟩
 obtain ⟨bl, hbl⟩ : ∃ bl, b.bs.length = bl := ⟨_, rfl⟩
 have Hbv : Hid (b.v = .slice (some ⟨bk, 0, none⟩) bl bl) := (show b.v = _ from by unfold Bd.v; rw [hbk, hbl])
 rw [Hbv.out] at HE HO1 ⊢
 clear h hE hp hr hb hn hbk hbl
 generalize n % S.L = m at *
 go_enter Try.func71, Try.ntmps71
 go_wp2_with (first | (go_at_call 83; refine HP.out.mono ?_; rintro e w2 ⟨rfl, rfl⟩) | (refine at_store 127 _ _ rfl ?_; refine wl_storeL rfl 127 _ _ rfl (L := [.int .i64 (n : Int), .slice (some ⟨bk, 0, none⟩) bl bl]) rfl rfl HT.out info_cell HO1.out ?_) | fail)
 go_end0
 exact ⟨rfl, HE.out⟩
theorem put_wide {eb off n : Nat} {b : Bd} {cs : Array Value} (h : S.Ok w B) (hB : B ≤ w.heap.size) (hE : w.heap[eb]? = some (.cells cs 100 (0, 0))) (hp : cs[off]? = some (.int .i64 (S.p : Int))) (hr : cs[off + 1]? = some S.ring) (h1 : S.p + S.L < n) (h2 : n ≤ S.p + 20000) (h3 : n ≤ 4611686018427387904) (hb : Body w B b) (hn : ¬ S.own b.k) : Calls Try.prog 71 #[.pointer (some ⟨eb, off, none⟩), .int .i64 (n : Int), b.v] w fun e w' => e = .returned (.tuple #[]) /\ PutO w w' B S eb off n b cs := by
 have hle := h.le
 have hp62 := h.p62
 have c0 : w.cell? ⟨eb, off, none⟩ = some (.int .i64 (S.p : Int)) := (bC hE off).trans hp
 have c1 : w.cell? ⟨eb, off + 1, none⟩ = some S.ring := (bC hE (off + 1)).trans hr
 have HW : Hid (Calls Try.prog 84 #[S.ring, .int .i64 ((n - S.p : Nat) : Int)] w fun e w' => WidO w w' S (n - S.p) e) := wid_any h (by omega) (by omega) hp62
 obtain ⟨ra, hra, hra2⟩ := ring_ra S
 rw [hra] at c1 HW
 have hd : (n : Int) - (S.p : Int) = ((n - S.p : Nat) : Int) := by omega
 have hlt : decide ((S.L : Int) < (n : Int) - (S.p : Int)) = true := by rw [decide_eq_true_eq]; omega
 rw [hd] at hlt
 obtain ⟨bk, hbk⟩ : ∃ bk, b.k = bk := ⟨_, rfl⟩
 obtain ⟨bl, hbl⟩ : ∃ bl, b.bs.length = bl := ⟨_, rfl⟩
 have Hbv : Hid (b.v = .slice (some ⟨bk, 0, none⟩) bl bl) := (show b.v = _ from by unfold Bd.v; rw [hbk, hbl])
 have hlt8 : eb < w.heap.size := lt_heap hE
 have HC : Hid (∀ M w1, (n - S.p) ≤ M -> M ≤ 40000 -> Fb w1 w.heap.size 127 (M * 2) ({ S with L := M, rb := w.heap.size } : St).rf -> Below w.heap.size w w1 ->
   let w2 := w1.setCell ⟨eb, off + 1, none⟩ (.slice (some ⟨w.heap.size, 0, none⟩) M M)
   w1.cell? ⟨eb, off + 1, none⟩ = some (.slice ra S.L S.L) /\ w1.frozen? ⟨eb, off + 1, none⟩ = false /\ w2.cell? ⟨eb, off + 1, none⟩ = some (.slice (some ⟨w.heap.size, 0, none⟩) M M) /\ w2.there w.heap.size (n % M * 2) 2 /\ PutO w (w2.setCells w.heap.size (n % M * 2) [.int .i64 (n : Int), b.v]) B S eb off n b cs) := fun M w1 hM1 hM2 hF hb1 => by
  have hE1 : w1.heap[eb]? = some (.cells cs 100 (0, 0)) := (hb1.block _ hlt8).trans hE
  have hMp : 0 < M := by omega
  have hs1 : ({ S with L := M, rb := w.heap.size } : St).Ok w1 B := ⟨fun _ => ⟨hF, hB⟩, fun m c hc => (h.el m c hc).still hb1, fun m c hc => ⟨(h.inw m c hc).1, by have := (h.inw m c hc).2; show m ≤ S.p + M; omega⟩, h.inj, hM2, h.p62⟩
  have hoff : off + 1 < cs.size := by rcases Array.getElem?_eq_some_iff.1 hr with ⟨hh, _⟩; exact hh
  have k2 : Kept w1 (w1.setCell ⟨eb, off + 1, none⟩ (.slice (some ⟨w.heap.size, 0, none⟩) M M)) (fun j => j = eb) := kset _ _ _ _ rfl
  have hne := hs1.ne_t hE1 (by decide) (by decide)
  have hs2 := hs1.keep k2 (fun j hj e => hne (by rw [<- e]; exact hj))
  have hE2 : (w1.setCell ⟨eb, off + 1, none⟩ (.slice (some ⟨w.heap.size, 0, none⟩) M M)).heap[eb]? = some (.cells (cs.setIfInBounds (off + 1) (.slice (some ⟨w.heap.size, 0, none⟩) M M)) 100 (0, 0)) := blk_set hE1 rfl
  have hgl : w.heap.size < w1.heap.size := hF.lt
  have hnb : ¬ ({ S with L := M, rb := w.heap.size } : St).own b.k := by
   rintro (⟨_, e⟩ | ⟨m, c, hc, e⟩)
   ·have := hb.bk.lt; have e' : b.k = w.heap.size := e; omega
   ·exact hn (.inr ⟨m, c, hc, e⟩)
  have hbE : b.k ≠ eb := fun e => bk_ne hb.bk hE (by decide) e
  have hb2 : Body (w1.setCell ⟨eb, off + 1, none⟩ (.slice (some ⟨w.heap.size, 0, none⟩) M M)) B b := (hb.still hb1).keep k2 hbE
  have hs3 := hs2.set hMp (n := n) (by show S.p < n; omega) (by show n ≤ S.p + M; omega) hb2 hnb
  have k3 : Kept (w1.setCell ⟨eb, off + 1, none⟩ (.slice (some ⟨w.heap.size, 0, none⟩) M M)) _ (fun j => j = w.heap.size) := ksets (P := fun j => j = w.heap.size) rfl [.int .i64 (n : Int), b.v] (n % M * 2) _
  refine ⟨((bC hE1 (off + 1)).trans hr).trans (by rw [hra]), frozen_of_row _ _ _ _ _ hE1, ?_, (hs2.row hMp).1.there _ _ ?_, ⟨⟨M, w.heap.size, _, hs3, hMp, by omega, .inr (Nat.le_refl _), k3.obj hE2 (show ¬ eb = w.heap.size by omega), by simp, ?_, fun i hi => ?_, ?_⟩⟩⟩
  ·rw [bC hE2]; simp [hoff]
  ·have := Nat.mod_lt n hMp; show n % M * 2 + 2 ≤ M * 2; omega
  ·rw [Array.getElem?_setIfInBounds]
   simp [hoff, St.ring, show ¬ M = 0 by omega]
  ·rw [Array.getElem?_setIfInBounds, if_neg (fun e => hi e.symm)]
  ·have k1 : Kept w w1 (fun j => j = eb ∨ (0 < S.L /\ j = S.rb)) := Kept.ofBelow hb1 _
   exact (k1.step k2 (fun j hj => .inl (.inl hj))).step k3 (fun j hj => .inr (by have e : j = w.heap.size := hj; omega))
 rw [Hbv.out] at HC ⊢
 clear h hE hp hr hb hn hbk hbl hra hra2
 go_enter Try.func71, Try.ntmps71
 go_wp2_with (first | (go_at_call 84; refine HW.out.mono ?_) | fail)
 rintro e w1 ⟨⟨M, hM1, hM2, rfl, hF, hb1⟩⟩
 obtain ⟨x0, x1, x2, x3, x4⟩ := HC.out M w1 hM1 hM2 hF hb1
 generalize hV : w1.setCell ⟨eb, off + 1, none⟩ (.slice (some ⟨w.heap.size, 0, none⟩) M M) = V at *
 have HP : Hid (Calls Try.prog 83 #[.slice (some ⟨w.heap.size, 0, none⟩) M M, .int .i64 (n : Int)] V fun e w' => e = .returned (.pointer (some ⟨w.heap.size, n % M * 2, none⟩)) /\ V = w') := place_any (by omega) (by omega) hM2
 have HT : Hid (V.there w.heap.size (n % M * 2) 2) := x3
 have HE : Hid (PutO w (V.setCells w.heap.size (n % M * 2) [.int .i64 (n : Int), .slice (some ⟨bk, 0, none⟩) bl bl]) B S eb off n b cs) := x4
 have HO1 : Hid (∀ u ∈ [Value.int .i64 (n : Int), .slice (some ⟨bk, 0, none⟩) bl bl], u.oneCell' = true) := (show ∀ u ∈ [Value.int .i64 (n : Int), .slice (some ⟨bk, 0, none⟩) bl bl], u.oneCell' = true from by intro u hu; simp at hu; rcases hu with rfl | rfl <;> rfl)
 clear x3 x4 hF hb1 HC HW
 generalize n % M = m at *
 go_wp2_with (first | (go_at_call 83; refine HP.out.mono ?_; rintro e w2 ⟨rfl, rfl⟩) | (refine at_store 127 _ _ rfl ?_; refine wl_storeL rfl 127 _ _ rfl (L := [.int .i64 (n : Int), .slice (some ⟨bk, 0, none⟩) bl bl]) rfl rfl HT.out info_cell HO1.out ?_) | fail)
 go_end0
 exact ⟨rfl, HE.out⟩
theorem put_any {eb off n : Nat} {b : Bd} {cs : Array Value} (h : S.Ok w B) (hB : B ≤ w.heap.size) (hE : w.heap[eb]? = some (.cells cs 100 (0, 0))) (hp : cs[off]? = some (.int .i64 (S.p : Int))) (hr : cs[off + 1]? = some S.ring) (h1 : S.p < n) (h2 : n ≤ S.p + 20000) (h3 : n ≤ 4611686018427387904) (hb : Body w B b) (hn : ¬ S.own b.k) : Calls Try.prog 71 #[.pointer (some ⟨eb, off, none⟩), .int .i64 (n : Int), b.v] w fun e w' => e = .returned (.tuple #[]) /\ PutO w w' B S eb off n b cs := by
 by_cases hh : n ≤ S.p + S.L
 ·exact put_in h hE hp hr h1 hh h3 hb hn
 ·exact put_wide h hB hE hp hr (by omega) h2 h3 hb hn
end
section
variable {w w' W : World} {B : Nat} {S S' : St}
def St.pass (S : St) (u : Nat) : St := { S with p := max S.p u, f := fun n => if n ≤ u then none else S.f n }
theorem pass_le (h : S.Ok w B) {u : Nat} (hu : u ≤ S.p) : S.pass u = S := by
 obtain ⟨p, L, rb, f⟩ := S
 unfold St.pass
 simp only at hu ⊢
 rw [Nat.max_eq_left hu]
 congr 1
 funext n
 by_cases e : n ≤ u
 ·rw [if_pos e]; exact (h.none_le (n := n) (by show n ≤ p; omega)).symm
 ·rw [if_neg e]
theorem pass_nxt {i : Nat} (hi : S.p ≤ i) : (S.pass i).nxt = S.pass (i + 1) := by
 unfold St.pass St.nxt
 simp only
 rw [Nat.max_eq_right hi, Nat.max_eq_right (by omega)]
 congr 1
 funext n
 by_cases e : n = i + 1
 ·rw [e, upd_same, if_pos (Nat.le_refl _)]
 ·rw [upd_ne _ _ e]
  by_cases e2 : n ≤ i
  ·rw [if_pos e2, if_pos (by omega)]
  ·rw [if_neg e2, if_neg (by omega)]
structure PassO (w w' : World) (B : Nat) (S : St) (eb off u : Nat) (cs : Array Value) : Prop where
 ok : (S.pass u).Ok w' B
 kept : Kept w w' (fun j => j = eb ∨ (0 < S.L /\ j = S.rb))
 hd : ∃ cs', w'.heap[eb]? = some (.cells cs' 100 (0, 0)) /\ cs'.size = cs.size /\ cs'[off]? = some (.int .i64 ((max S.p u : Nat) : Int)) /\ ∀ i, i ≠ off -> cs'[i]? = cs[i]?
def pvOf (w : World) (eb off : Nat) : Nat := (w.cell? ⟨eb, off, none⟩).elim 0 fun v => (intOf v).toNat
theorem PassO.refl {eb off : Nat} {cs : Array Value} (h : S.Ok w B) (hE : w.heap[eb]? = some (.cells cs 100 (0, 0))) (hp : cs[off]? = some (.int .i64 (S.p : Int))) : PassO w w B S eb off S.p cs :=
 ⟨by rw [pass_le h (Nat.le_refl _)]; exact h, Kept.refl _ _, ⟨cs, hE, rfl, by rw [Nat.max_self]; exact hp, fun _ _ => rfl⟩⟩
theorem zc_one : ∀ u ∈ [Value.int .i64 0, .slice none 0 0], u.oneCell' = true := cs_one 0 none
theorem pass_any {eb off u : Nat} {cs : Array Value} (h : S.Ok w B) (hE : w.heap[eb]? = some (.cells cs 100 (0, 0))) (hp : cs[off]? = some (.int .i64 (S.p : Int))) (hr : cs[off + 1]? = some S.ring) (h1 : u ≤ S.p + S.L) (h62 : u ≤ 4611686018427387904) : Calls Try.prog 73 #[.pointer (some ⟨eb, off, none⟩), .int .i64 (u : Int)] w fun e w' => e = .returned (.tuple #[]) /\ PassO w w' B S eb off u cs := by
 have hle := h.le
 have hp62 := h.p62
 have H0 : Hid (PassO w w B S eb off S.p cs) := PassO.refl h hE hp
 have Hr : Hid (cs[off + 1]? = some S.ring) := hr
 have Hoff : Hid (off < cs.size) := (show off < cs.size from by rcases Array.getElem?_eq_some_iff.1 hp with ⟨hh, _⟩; exact hh)
 have HU : Hid (u ≤ S.p -> PassO w w B S eb off u cs) := fun hu => ⟨by rw [pass_le h hu]; exact h, Kept.refl _ _, ⟨cs, hE, rfl, by rw [Nat.max_eq_left hu]; exact hp, fun _ _ => rfl⟩⟩
 have HEn : Hid (u ≤ S.p -> ∀ wr, PassO w wr B S eb off S.p cs -> PassO w wr B S eb off u cs) := fun hu wr hh => ⟨by have := hh.ok; rw [pass_le h (Nat.le_refl _)] at this; rw [pass_le h hu]; exact this, hh.kept, by have := hh.hd; rw [Nat.max_self] at this; rw [Nat.max_eq_left hu]; exact this⟩
 clear h hE hp hr
 go_enter Try.func73, Try.ntmps73
 go_wp2
 go_loopw [4] (fun v4 wr => ∃ i : Nat, S.p ≤ i /\ (i ≤ u ∨ i = S.p) /\ Hid (PassO w wr B S eb off i cs)) (fun _ wr => u - pvOf wr eb off)
 case atStart => exact ⟨S.p, Nat.le_refl _, .inr rfl, H0⟩
 case round =>
  obtain ⟨i, hi, hiu, hs⟩ := hrel
  obtain ⟨cs1, hE1, hsz1, hp1, hr1⟩ := hs.out.hd
  rw [Nat.max_eq_right hi] at hp1
  have c0 : wr.cell? ⟨eb, off, none⟩ = some (.int .i64 (i : Int)) := (bC hE1 off).trans hp1
  have f0 := frozen_of_row wr eb off _ _ hE1
  have Hpv : Hid (pvOf wr eb off = i) := (show pvOf wr eb off = i from by unfold pvOf; rw [c0]; rfl)
  by_cases hlt : i < u
  ·have hL : 0 < S.L := by omega
   have hok := hs.out.ok
   have hri : (S.pass i).ring = .slice (some ⟨S.rb, 0, none⟩) S.L S.L := ring_pos (S := S.pass i) hL
   have hri0 : S.ring = .slice (some ⟨S.rb, 0, none⟩) S.L S.L := ring_pos hL
   have hltd : decide ((i : Int) < (u : Int)) = true := by rw [decide_eq_true_eq]; omega
   generalize hV : wr.setCell ⟨eb, off, none⟩ (.int .i64 ((i : Int) + 1)) = V
   have hEV : V.heap[eb]? = some (.cells (cs1.setIfInBounds off (.int .i64 ((i : Int) + 1))) 100 (0, 0)) := by rw [<- hV]; exact blk_set hE1 rfl
   have kV : Kept wr V (fun j => j = eb) := by rw [<- hV]; exact kset _ _ _ _ rfl
   have hne := hok.ne_t hE1 (by decide) (by decide)
   have hokV : (S.pass i).Ok V B := hok.keep kV (fun j hj e => hne (by rw [<- e]; exact hj))
   have hofs : off < cs1.size := by rw [hsz1]; exact Hoff.out
   have x0 : V.cell? ⟨eb, off, none⟩ = some (.int .i64 ((i : Int) + 1)) := by rw [bC hEV]; simp [hofs]
   have x1 : V.cell? ⟨eb, off + 1, none⟩ = some (.slice (some ⟨S.rb, 0, none⟩) S.L S.L) := by
    rw [bC hEV, Array.getElem?_setIfInBounds, if_neg (by omega), hr1 _ (by omega), Hr.out, hri0]
   have hrow := (hokV.row hL).1
   have hokD : (S.pass i).Ok V.drew B := hokV.still (Below.refl _ _).drew
   have hmx : (S.pass i).p = i := Nat.max_eq_right hi
   obtain ⟨m, hm⟩ : ∃ m, (i + 1) % S.L = m := ⟨_, rfl⟩
   have hmL : m < S.L := by rw [<- hm]; exact Nat.mod_lt _ hL
   have HP : Hid (∀ w', Calls Try.prog 83 #[.slice (some ⟨S.rb, 0, none⟩) S.L S.L, .int .i64 ((i : Int) + 1)] w' fun e w2 => e = .returned (.pointer (some ⟨S.rb, m * 2, none⟩)) /\ w' = w2) := fun w' => by rw [<- hm, show (i : Int) + 1 = ((i + 1 : Nat) : Int) by omega]; exact place_any hL (by omega) hle
   have HT : Hid (V.drew.there S.rb (m * 2) 2) := (show V.drew.there S.rb (m * 2) 2 from (hokD.row hL).1.there _ _ (by show m * 2 + 2 ≤ S.L * 2; omega))
   have kD : Kept V.drew (V.drew.setCells S.rb (m * 2) [.int .i64 0, .slice none 0 0]) (fun j => j = S.rb) := ksets (P := fun j => j = S.rb) rfl _ _ _
   have hner : eb ≠ S.rb := fun e => hne (.inl ⟨hL, e⟩)
   have HX : Hid ((V.drew.setCells S.rb (m * 2) [.int .i64 0, .slice none 0 0]).cell? ⟨eb, off, none⟩ = some (.int .i64 ((i : Int) + 1)) /\ (V.drew.setCells S.rb (m * 2) [.int .i64 0, .slice none 0 0]).cell? ⟨eb, off + 1, none⟩ = some (.slice (some ⟨S.rb, 0, none⟩) S.L S.L)) := (show _ /\ _ from ⟨kC kD hner (bA (Below.refl _ _).drew x0), kC kD hner (bA (Below.refl _ _).drew x1)⟩)
   have HN : Hid (PassO w (V.drew.setCells S.rb (m * 2) [.int .i64 0, .slice none 0 0]) B S eb off (i + 1) cs) := by
    have e1 := hokD.nxt hL (by rw [hmx]; omega)
    rw [pass_nxt hi, hmx] at e1
    have e2 : (S.pass i).L = S.L := rfl
    rw [e2, hm] at e1
    refine ⟨e1, ?_, ⟨cs1.setIfInBounds off (.int .i64 ((i : Int) + 1)), kD.obj (((Below.refl _ V).drew.block _ (lt_heap hEV)).trans hEV) hner, by simp [hsz1], ?_, fun j hj => ?_⟩⟩
    ·exact ((hs.out.kept.trans (kV.mono fun j _ e => .inl e)).trans (Kept.ofBelow (Below.refl _ _).drew _)).trans (kD.mono fun j _ e => .inr ⟨hL, e⟩)
    ·rw [Nat.max_eq_right (by omega), Array.getElem?_setIfInBounds]; simp [hofs]
    ·rw [Array.getElem?_setIfInBounds, if_neg (fun e => hj e.symm), hr1 j hj]
   have HM : Hid (pvOf (V.drew.setCells S.rb (m * 2) [.int .i64 0, .slice none 0 0]) eb off = i + 1) := (show pvOf _ eb off = i + 1 from by unfold pvOf; rw [HX.out.1]; simp [intOf])
   clear hrow hok hokV hokD hE1 hEV kV kD hs hmx hm hri hri0 hr1 hp1 hsz1 hofs
   go_wp2
   refine wp_region_held_drew (S := (fun w' => w'.cell? ⟨eb, off, none⟩ = some (.int .i64 ((i : Int) + 1)) /\ w'.cell? ⟨eb, off + 1, none⟩ = some (.slice (some ⟨S.rb, 0, none⟩) S.L S.L))) (by kernel_rfl) ⟨bA (Below.refl _ _).drew x0, bA (Below.refl _ _).drew x1⟩ (fun hH => ?_)
   simp only [Act.put, lA, lC, lN, zA]
   refine wG 0 (.pointer (some ⟨eb, off, none⟩)) rfl hH ?_
   simp only [aP, gA, gZ, gC, sA, sZ, sC]
   refine wG 1 (.pointer (some ⟨eb, off, none⟩)) rfl hH ?_
   simp only [aP, gA, gZ, gC, sA, sZ, sC]
   refine wG 2 (.pointer (some ⟨eb, off + 1, none⟩)) rfl hH ?_
   simp only [aP, gA, gZ, gC, sA, sZ, sC]
   refine wL 3 (.slice (some ⟨S.rb, 0, none⟩) S.L S.L) rfl hH ?_
   simp only [aP, gA, gZ, gC, sA, sZ, sC]
   refine wG 4 (.pointer (some ⟨eb, off, none⟩)) rfl hH ?_
   simp only [aP, gA, gZ, gC, sA, sZ, sC]
   refine wG 5 (.pointer (some ⟨eb, off, none⟩)) rfl hH ?_
   simp only [aP, gA, gZ, gC, sA, sZ, sC]
   refine wG 6 (.pointer (some ⟨eb, off, none⟩)) rfl hH ?_
   simp only [aP, gA, gZ, gC, sA, sZ, sC]
   refine wL 7 (.int .i64 ((i : Int) + 1)) rfl hH ?_
   simp only [aP, gA, gZ, gC, sA, sZ, sC]
   refine wG 9 (.agg #[.int .i64 0, .slice none 0 0]) rfl hH ?_
   simp only [aP, gA, gZ, gC, sA, sZ, sC]
   refine rY 8 rfl fun K hK => ?_
   go_simp
   refine (HP.out _).mono ?_
   rintro e w2 ⟨rfl, rfl⟩
   refine hK.out _ _ ⟨bA (Below.refl _ _).drew x0, bA (Below.refl _ _).drew x1⟩ (fun hH => ?_)
   clear hK K
   refine wG 10 (.pointer (some ⟨S.rb, m * 2, none⟩)) rfl hH ?_
   simp only [aP, gA, gZ, gC, sA, sZ, sC]
   refine rY 11 rfl fun K hK => ?_
   refine step_storeL rfl 127 (.tmp 27) (.tmp 26) rfl (L := [.int .i64 0, .slice none 0 0]) rfl rfl HT.out info_cell zc_one ?_
   refine hK.out _ _ (by exact HX.out) (fun hH => ?_)
   clear hK K
   refine wpAnyH_done (by kernel_rfl) ?_ _
   clear hH
   simp only [Act.put]
   go_wp2
   go_roundw
   case rel => exact ⟨i + 1, by omega, .inl (by omega), HN⟩
   case measure => rw [HM.out, Hpv.out]; omega
  ·have hltd : decide ((i : Int) < (u : Int)) = false := by rw [decide_eq_false_iff_not]; omega
   have HE : Hid (PassO w wr B S eb off u cs) := (show PassO w wr B S eb off u cs from by
    rcases hiu with h3 | h3
    ·obtain rfl : i = u := by omega
     exact hs.out
    ·rw [h3] at hs
     exact HEn.out (by omega) wr hs.out)
   clear hs hE1 hr1
   go_wp2
   go_end0
   exact ⟨rfl, HE.out⟩
end
section
variable {w w' W : World} {B : Nat} {S S' : St}
def takeN (f : Nat -> Option Bd) : Nat -> Nat -> List Bd
 | _, 0 => []
 | p, m + 1 => match f (p + 1) with
  | some b => b :: takeN f (p + 1) m
  | none => []
theorem takeN_eq (f : Nat -> Option Bd) : ∀ (m p : Nat) (bl : List Bd), bl.length ≤ m -> (∀ i, i < bl.length -> f (p + i + 1) = bl[i]?) -> (bl.length = m ∨ f (p + bl.length + 1) = none) -> takeN f p m = bl
 | 0, p, bl, h, _, _ => by
   obtain rfl : bl = [] := List.eq_nil_of_length_eq_zero (by omega)
   rfl
 | m + 1, p, [], _, _, h => by
   have : f (p + 1) = none := by simpa using h
   simp [takeN, this]
 | m + 1, p, b :: bl, h1, h2, h3 => by
   have e0 : f (p + 1) = some b := by simpa using h2 0 (by simp)
   simp only [takeN, e0]
   have e := takeN_eq f m (p + 1) bl (by simpa using h1) (fun i hi => by
    have := h2 (i + 1) (by simpa using hi)
    rw [show p + 1 + i + 1 = p + (i + 1) + 1 by omega, this]; simp) (by
    rcases h3 with h3 | h3
    ·left; simpa using h3
    ·right; rw [show p + 1 + bl.length + 1 = p + (b :: bl).length + 1 by simp; omega]; exact h3)
   rw [e]
theorem takeN_len (f : Nat -> Option Bd) : ∀ (m p : Nat), (takeN f p m).length ≤ m
 | 0, p => by simp [takeN]
 | m + 1, p => by
   simp only [takeN]
   split
   ·have := takeN_len f m (p + 1); simp; omega
   ·simp
theorem takeN_at (f : Nat -> Option Bd) : ∀ (m p i : Nat), i < (takeN f p m).length -> f (p + i + 1) = (takeN f p m)[i]?
 | 0, p, i, h => by simp [takeN] at h
 | m + 1, p, i, h => by
   cases e : f (p + 1) with
   | none => simp [takeN, e] at h
   | some b =>
    simp only [takeN, e] at h ⊢
    cases i with
    | zero => simpa using e
    | succ i =>
     have := takeN_at f m (p + 1) i (by simpa using h)
     rw [show p + (i + 1) + 1 = p + 1 + i + 1 by omega, this]; simp
theorem takeN_end (f : Nat -> Option Bd) : ∀ (m p : Nat), (takeN f p m).length = m ∨ f (p + (takeN f p m).length + 1) = none
 | 0, p => by simp [takeN]
 | m + 1, p => by
   cases e : f (p + 1) with
   | none => right; simp [takeN, e]
   | some b =>
    simp only [takeN, e]
    rcases takeN_end f m (p + 1) with h | h
    ·left; simp [h]
    ·right; rw [show p + (b :: takeN f (p + 1) m).length + 1 = p + 1 + (takeN f (p + 1) m).length + 1 by simp; omega]; exact h
theorem step_push {ops : Array Oper} {o : Oper} {a : Act} {K : Act -> World -> Prop} {Q : Exit -> Act -> World -> Prop} {E : Prop} (hgd : o.guard = none) (s x : Operand)
  (ho : o.op = .call { callee := .builtin .append, args := #[s, x], argTypes := #[49, 49] })
  (w0 : World) (base : Nat) (v : Value) (vals : List Value) (y : Value) (hs : a.eval s = v) (n : Nat) (hown : w0.ownsRow base 40 1 v n vals) (hw : w = w0.alloc (.cells #[y] 40)) (hx : a.eval x = .slice (some ⟨w0.heap.size, 0, none⟩) 1 1) (hy : y.oneCell' = true)
  (hn : n + 1 ≤ 1000000) (hbase : base ≤ w0.heap.size)
  (h : ∀ g cap w', w'.ownsRow base 40 1 (.slice (some ⟨g, 0, none⟩) (n + 1) cap) (n + 1) (vals ++ [y]) -> Kept w0 w' (fun k => v.ownBlock = some k) -> (v.ownBlock = some g ∨ w0.heap.size ≤ g) -> g < w'.heap.size -> K (a.put o.dst (.slice (some ⟨g, 0, none⟩) (n + 1) cap)) w') : if Region.wanted o (yielded ops a.tmps) = true then Oper.wp Try.prog o a w K Q else E := by
 obtain ⟨i0, hi, hz0, hz1, hz2⟩ := rows_info
 subst hw
 refine step_append_lies _ hgd s x 49 ho base 40 i0 (.slice none 0 0) 1 24 Try.underlying49 hi hz0 hz1 hz2 rfl (by decide) v n vals hs (World.ownsRow.alloc hown _) ⟨w0.heap.size, 0, none⟩ 1 1 [y] hx rfl (cell_one_new _ _ _) (by intro u hu; simp at hu; subst hu; exact hy) (by omega) (by unfold maxLen; omega) (by omega) (by simp; omega) _ rfl fun g cap w' h2 h3 h4 h5 => h g cap w' h2 ?_ ?_ h5
 ·exact (Kept.ofBelow ((Below.refl _ w0).alloc (Nat.le_refl _) (.cells #[y] 40)) _).step (Kept.ofGrown h3) (fun j hj => .inl hj.symm)
 ·rcases h4 with h4 | h4
  ·exact .inl h4
  ·right; rw [h4]; simp
def slen : Value -> Nat
 | .slice _ n _ => n
 | _ => 0
structure NextO (w w' : World) (S : St) (most : Nat) (e : Ending) : Prop where
 out : ∃ a c, e = .returned (.slice a (takeN S.f S.p most).length c) /\ w'.ownsRow w.heap.size 40 1 (.slice a (takeN S.f S.p most).length c) (takeN S.f S.p most).length ((takeN S.f S.p most).map Bd.v) /\ Below w.heap.size w w'
theorem bel_kept {w0 w1 w2 : World} {v : Value} (h : Below w0.heap.size w0 w1) (k : Kept w1 w2 (fun j => v.ownBlock = some j)) (hv : ∀ j, v.ownBlock = some j -> w0.heap.size ≤ j) : Below w0.heap.size w0 w2 :=
 ⟨k.os.trans h.os, k.tape.trans h.tape, k.output.trans h.output, Nat.le_trans h.size k.size, fun i hi => (k.block i (Nat.lt_of_lt_of_le hi h.size) (fun e => by have := hv i e; omega)).trans (h.block i hi)⟩
theorem next_any {eb off most : Nat} (h : S.Ok w B) (c0 : w.cell? ⟨eb, off, none⟩ = some (.int .i64 (S.p : Int))) (c1 : w.cell? ⟨eb, off + 1, none⟩ = some S.ring) (hm : most ≤ 20000) : Calls Try.prog 61 #[.pointer (some ⟨eb, off, none⟩), .int .i64 (most : Int)] w fun e w' => NextO w w' S most e := by
 have hle := h.le
 have hp62 := h.p62
 have He : Hid (eb < w.heap.size) := World.block_lt_of_cell? w _ c0
 have HH : Hid (∀ w' n, Below w.heap.size w w' -> S.p < n -> n ≤ 4611686018427427905 -> Calls Try.prog 72 #[.pointer (some ⟨eb, off, none⟩), .int .i64 (n : Int)] w' fun e w2 => e = .returned (.bool (S.f n).isSome) /\ w' = w2) := fun w' n hb h1 h2 => has_any (h.still hb) (bA hb c1) h1 h2
 have Hh : Hid (S.Ok w B) := h
 have HC0 : Hid (w.cell? ⟨eb, off, none⟩ = some (.int .i64 (S.p : Int))) := c0
 have HC1 : Hid (w.cell? ⟨eb, off + 1, none⟩ = some S.ring) := c1
 clear h c0 c1
 go_enter Try.func61, Try.ntmps61
 go_wp2
 go_loopw [5] (fun v5 wr => ∃ (bl : List Bd) (a : Option Addr) (k c : Nat), v5 = .slice a k c /\ Hid (bl.length = k) /\ k ≤ most /\ Hid (∀ i, i < k -> S.f (S.p + i + 1) = bl[i]?) /\ Hid (wr.ownsRow w.heap.size 40 1 (.slice a k c) k (bl.map Bd.v)) /\ Hid (Below w.heap.size w wr)) (fun v5 _ => most - slen v5)
 case atStart => exact ⟨[], none, 0, 0, rfl, rfl, Nat.zero_le _, (fun i hi => by omega), ⟨rfl, .inl ⟨rfl, rfl⟩⟩, Below.refl _ _⟩
 case round =>
  obtain ⟨bl, a, k, c, rfl, Hk, hk, Hf, Ho, HB⟩ := hrel
  have x0 : wr.cell? ⟨eb, off, none⟩ = some (.int .i64 (S.p : Int)) := bA HB.out HC0.out
  have HEnd : Hid ((k = most ∨ S.f (S.p + k + 1) = none) -> takeN S.f S.p most = bl) := (show _ -> _ from fun hh => takeN_eq S.f most S.p bl (by rw [Hk.out]; exact hk) (by rw [Hk.out]; exact Hf.out) (by rw [Hk.out]; exact hh))
  by_cases hlt : k < most
  ·have hd : decide ((k : Int) < (most : Int)) = true := by rw [decide_eq_true_eq]; omega
   have HH1 : Hid (Calls Try.prog 72 #[.pointer (some ⟨eb, off, none⟩), .int .i64 ((S.p : Int) + (k : Int) + 1)] wr fun e w2 => e = .returned (.bool (S.f (S.p + k + 1)).isSome) /\ wr = w2) := (show Calls _ _ _ _ _ from by
    have := HH.out wr (S.p + k + 1) HB.out (by omega) (by omega)
    rw [show ((S.p + k + 1 : Nat) : Int) = (S.p : Int) + (k : Int) + 1 by omega] at this
    exact this)
   cases hfe : S.f (S.p + k + 1) with
   | none =>
    rw [hfe] at HH1
    have HE := HEnd.out (.inr hfe)
    have HX : Hid (NextO w wr S most (.returned (.slice a k c))) := (show NextO _ _ _ _ _ from ⟨⟨a, c, by rw [HE, Hk.out], by rw [HE, Hk.out]; exact Ho.out, HB.out⟩⟩)
    clear HE hfe HEnd
    go_wp2_with (first | (go_at_call 72; refine HH1.out.mono ?_; rintro e w2 ⟨rfl, rfl⟩) | fail)
    go_ret
    exact HX.out
   | some b =>
    rw [hfe] at HH1
    have hin := Hh.out.inw _ _ hfe
    have hL : 0 < S.L := by omega
    have x1 : wr.cell? ⟨eb, off + 1, none⟩ = some (.slice (some ⟨S.rb, 0, none⟩) S.L S.L) := by rw [<- ring_pos hL]; exact bA HB.out HC1.out
    obtain ⟨m, hmm⟩ : ∃ m, (S.p + k + 1) % S.L = m := ⟨_, rfl⟩
    have hmL : m < S.L := by rw [<- hmm]; exact Nat.mod_lt _ hL
    have Hrb : Hid (S.rb < w.heap.size) := (show S.rb < w.heap.size from (Hh.out.row hL).1.lt)
    obtain ⟨bk, hbk⟩ : ∃ bk, b.k = bk := ⟨_, rfl⟩
    obtain ⟨bl2, hbl⟩ : ∃ bl2, b.bs.length = bl2 := ⟨_, rfl⟩
    have Hbv : Hid (b.v = .slice (some ⟨bk, 0, none⟩) bl2 bl2) := (show b.v = _ from by unfold Bd.v; rw [hbk, hbl])
    have x2 : wr.cell? ⟨S.rb, m * 2 + 1, none⟩ = some (.slice (some ⟨bk, 0, none⟩) bl2 bl2) := by
     rw [<- Hbv.out]
     refine bA HB.out ?_
     have := St.cell_th (Hh.out.row hL).1 hmL
     rw [this, <- hmm, nm_mod hin.1 hin.2, hfe]
     rfl
    have HP : Hid (∀ w', Calls Try.prog 83 #[.slice (some ⟨S.rb, 0, none⟩) S.L S.L, .int .i64 ((S.p : Int) + (k : Int) + 1)] w' fun e w2 => e = .returned (.pointer (some ⟨S.rb, m * 2, none⟩)) /\ w' = w2) := fun w' => by rw [<- hmm, show (S.p : Int) + (k : Int) + 1 = ((S.p + k + 1 : Nat) : Int) by omega]; exact place_any hL (by omega) hle
    have HF2 : Hid (∀ i, i < k + 1 -> S.f (S.p + i + 1) = (bl ++ [b])[i]?) := (show ∀ i, i < k + 1 -> S.f (S.p + i + 1) = (bl ++ [b])[i]? from fun i hi => by
     have hk2 := Hk.out
     by_cases e : i < k
     ·rw [List.getElem?_append_left (by omega)]; exact Hf.out i e
     ·obtain rfl : i = k := by omega
      rw [List.getElem?_append_right (by omega), hk2, Nat.sub_self]; exact hfe)
    have HK2 : Hid ((bl ++ [b]).length = k + 1) := (show (bl ++ [b]).length = k + 1 from by rw [List.length_append, Hk.out]; rfl)
    clear hin hfe hmm hbk hbl HEnd
    ·go_wp2_with (first | (go_at_call 72; refine HH1.out.mono ?_; rintro e w2 ⟨rfl, rfl⟩) | fail)
     refine wp_region_held_drew (S := (fun w' => w'.cell? ⟨eb, off, none⟩ = some (.int .i64 (S.p : Int)) /\ w'.cell? ⟨eb, off + 1, none⟩ = some (.slice (some ⟨S.rb, 0, none⟩) S.L S.L) /\ w'.cell? ⟨S.rb, m * 2 + 1, none⟩ = some (.slice (some ⟨bk, 0, none⟩) bl2 bl2))) (by kernel_rfl) ⟨bA (Below.refl _ _).drew x0, bA (Below.refl _ _).drew x1, bA (Below.refl _ _).drew x2⟩ (fun hH => ?_)
     simp only [Act.put, lA, lC, lN, zA]
     refine wG 0 (.slice a k c) rfl hH ?_
     simp only [aP, gA, gZ, gC, sA, sZ, sC]
     refine wG 1 (.pointer (some ⟨eb, off, none⟩)) rfl hH ?_
     simp only [aP, gA, gZ, gC, sA, sZ, sC]
     refine wG 2 (.pointer (some ⟨eb, off, none⟩)) rfl hH ?_
     simp only [aP, gA, gZ, gC, sA, sZ, sC]
     refine wG 3 (.pointer (some ⟨eb, off + 1, none⟩)) rfl hH ?_
     simp only [aP, gA, gZ, gC, sA, sZ, sC]
     refine wL 4 (.slice (some ⟨S.rb, 0, none⟩) S.L S.L) rfl hH ?_
     simp only [aP, gA, gZ, gC, sA, sZ, sC]
     refine wG 5 (.pointer (some ⟨eb, off, none⟩)) rfl hH ?_
     simp only [aP, gA, gZ, gC, sA, sZ, sC]
     refine wG 6 (.pointer (some ⟨eb, off, none⟩)) rfl hH ?_
     simp only [aP, gA, gZ, gC, sA, sZ, sC]
     refine wG 7 (.pointer (some ⟨eb, off, none⟩)) rfl hH ?_
     simp only [aP, gA, gZ, gC, sA, sZ, sC]
     refine wL 8 (.int .i64 (S.p : Int)) rfl hH ?_
     simp only [aP, gA, gZ, gC, sA, sZ, sC]
     refine wG 9 (.slice a k c) rfl hH ?_
     simp only [aP, gA, gZ, gC, sA, sZ, sC]
     refine wG 10 (.int .i64 (k : Int)) rfl hH ?_
     simp only [aP, gA, gZ, gC, sA, sZ, sC]
     refine wX 11 (.int .i64 ((S.p : Int) + (k : Int))) rfl (Or.inl ⟨by rfl, fun w' hS => by (go_simp; exact wrap_id (by omega) (by omega))⟩) hH ?_
     simp only [aP, gA, gZ, gC, sA, sZ, sC]
     refine wX 12 (.int .i64 ((S.p : Int) + (k : Int) + 1)) rfl (Or.inl ⟨by rfl, fun w' hS => by (go_simp; exact wrap_id (by omega) (by omega))⟩) hH ?_
     simp only [aP, gA, gZ, gC, sA, sZ, sC]
     refine rY 13 rfl fun K hK => ?_
     go_simp
     refine (HP.out _).mono ?_
     rintro e w2 ⟨rfl, rfl⟩
     refine hK.out _ _ ⟨bA (Below.refl _ _).drew x0, bA (Below.refl _ _).drew x1, bA (Below.refl _ _).drew x2⟩ (fun hH => ?_)
     clear hK K
     refine wG 14 (.pointer (some ⟨S.rb, m * 2, none⟩)) rfl hH ?_
     simp only [aP, gA, gZ, gC, sA, sZ, sC]
     refine wG 15 (.pointer (some ⟨S.rb, m * 2 + 1, none⟩)) rfl hH ?_
     simp only [aP, gA, gZ, gC, sA, sZ, sC]
     refine wL 16 (.slice (some ⟨bk, 0, none⟩) bl2 bl2) rfl hH ?_
     simp only [aP, gA, gZ, gC, sA, sZ, sC]
     have y0 := bA (Below.refl _ _).drew x0
     have y1 := bA (Below.refl _ _).drew x1
     have y2 := bA (Below.refl _ _).drew x2
     have HoD : Hid (wr.drew.ownsRow w.heap.size 40 1 (.slice a k c) k (bl.map Bd.v)) := own_still Ho.out (Below.refl _ _).drew
     have HbD : Hid (Below w.heap.size w wr.drew) := (show Below _ _ _ from HB.out.trans ((Below.refl _ _).drew.mono HB.out.size))
     clear Ho HB x0 x1 x2
     generalize wr.drew = D at *
     refine rY 17 rfl fun K hK => ?_
     go_simp
     refine hK.out _ _ ⟨bA (balloc (Below.refl _ _)) y0, bA (balloc (Below.refl _ _)) y1, bA (balloc (Below.refl _ _)) y2⟩ (fun hH => ?_)
     clear hK K
     refine rY 18 rfl fun K hK => ?_
     refine step_push rfl (.tmp 22) (.tmp 39) rfl D w.heap.size (.slice a k c) (bl.map Bd.v) (.slice (some ⟨bk, 0, none⟩) bl2 bl2) rfl k HoD.out rfl rfl rfl (by omega) HbD.out.size (fun g cap D2 ho2 hk2 hg2 _ => ?_)
     have HO2 : Hid (D2.ownsRow w.heap.size 40 1 (.slice (some ⟨g, 0, none⟩) (k + 1) cap) (k + 1) ((bl ++ [b]).map Bd.v)) := (show D2.ownsRow _ _ _ _ _ _ from by rw [List.map_append]; show D2.ownsRow _ _ _ _ _ (bl.map Bd.v ++ [b.v]); rw [Hbv.out]; exact ho2)
     have hav : ∀ j, (Value.slice a k c).ownBlock = some j -> w.heap.size ≤ j := fun j hj => (World.ownsRow.lt HoD.out j hj).1
     have HB2 : Hid (Below w.heap.size w D2) := bel_kept HbD.out hk2 hav
     have keep : ∀ (q i : Nat) (u : Value), q < w.heap.size -> D.cell? ⟨q, i, none⟩ = some u -> D2.cell? ⟨q, i, none⟩ = some u := fun q i u hq hc => kC hk2 (fun e => by have := hav q e; omega) hc
     refine hK.out _ _ ⟨keep _ _ _ He.out y0, keep _ _ _ He.out y1, keep _ _ _ Hrb.out y2⟩ (fun hH => ?_)
     clear hK K keep hav ho2 hk2 hg2 y0 y1 y2
     simp only [aP, gA, gZ, gC, sA, sZ, sC]
     refine wG 19 (.slice (some ⟨g, 0, none⟩) (k + 1) cap) rfl hH ?_
     simp only [aP, gA, gZ, gC, sA, sZ, sC]
     refine wpAnyH_done (by kernel_rfl) ?_ _
     clear hH
     go_wp2
     go_roundw
     case rel => exact ⟨bl ++ [b], _, k + 1, cap, rfl, HK2, by omega, HF2, HO2, HB2⟩
     case measure => simp [slen]; omega
  ·obtain rfl : k = most := by omega
   have hd : decide ((k : Int) < (k : Int)) = false := by rw [decide_eq_false_iff_not]; omega
   have HE := HEnd.out (.inl rfl)
   have HX : Hid (NextO w wr S k (.returned (.slice a k c))) := (show NextO _ _ _ _ _ from ⟨⟨a, c, by rw [HE, Hk.out], by rw [HE, Hk.out]; exact Ho.out, HB.out⟩⟩)
   clear HE HEnd
   go_wp2
   go_ret
   exact HX.out
end
end Go.Proofs.Ythanifbimndhaaa.Ln
