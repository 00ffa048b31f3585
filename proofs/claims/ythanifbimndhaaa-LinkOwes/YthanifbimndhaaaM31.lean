import Derived.Test.YthanifbimndhaaaM14
namespace Go.Proofs.Ythanifbimndhaaa.Ln
set_option maxHeartbeats 40000000
open Go.RowKit Mb
set_option linter.unusedVariables false
set_option maxRecDepth 100000
set_option linter.unusedSimpArgs false
section
variable {w w' W : World} {B T : Nat} {R R' : Rx} {r r' : Rn} {l : List (Nat × Bn)}
theorem ea_one (a : Int) (k n m : Nat) : ∀ u ∈ ([.int .i64 a, .slice (some ⟨k, 0, none⟩) n m] : List Value), u.oneCell' = true := by
 intro u hu
 simp only [List.mem_cons, List.not_mem_nil, or_false] at hu
 rcases hu with rfl | rfl <;> rfl
theorem TkS.c8 {wr : World} {k m : Nat} {ev' v8 : Value} {o : List Bn} (h : TkS w wr R k r B l ev' m o v8) : wr.cell? ⟨R.b, 8, none⟩ = some (.slice (some ⟨R.g, 0, none⟩) R.n R.c) := bC h.blk 8
theorem TkS.e3 {wr : World} {k m : Nat} {ev' v8 : Value} {o : List Bn} (h : TkS w wr R k r B l ev' m o v8) (hk : k < R.n) : wr.cell? ⟨R.g, k * 6 + 3, none⟩ = some (.int .i64 ((r.gt + m : Nat) : Int)) := by
 rw [h.row.cell _ (by omega), rrf_at _ _ _ (by omega), upd_same]
 rfl
theorem TkS.e4 {wr : World} {k m : Nat} {ev' v8 : Value} {o : List Bn} (h : TkS w wr R k r B l ev' m o v8) (hk : k < R.n) : wr.cell? ⟨R.g, k * 6 + 4, none⟩ = some ev' := by
 rw [h.row.cell _ (by omega), rrf_at _ _ _ (by omega), upd_same]
 rfl
theorem Rd.keepU {V1 U w5 D : World} {g i : Nat} {v : Value} {ao : Option Addr} {n c : Nat} {bs : List Int} (h : Rd V1 ao n c bs) (hU : V1.setCell ⟨g, i, none⟩ v = U) (hne : 0 < n -> In ao fun b => b ≠ g) (h5 : Below U.heap.size U w5) (hD : Below w5.heap.size w5 D) : Rd D ao n c bs := by
 subst hU
 by_cases hn : 0 < n
 ·exact ((h.keep (kset (P := fun j => j = g) V1 g i v rfl) (fun b off e => hne hn b off e)).still h5).still hD
 ·obtain rfl : n = 0 := by omega
  exact ⟨h.len, h.cap, h.nil, .inl rfl, h.by_⟩
theorem rtake_new (h : R.Ok w B T) {q : Int} (hq : R.at q = some r) (t : Tg) {u : Nat} {ao : Option Addr} {n c : Nat} {bs : List Int} (hrd : Rd w ao n c bs) (hu1 : 1 ≤ u) (hu : u ≤ 4611686018427387904) (hn : inR 1 300 (n : Int) = true) (ht : t = R.tag) (hf : r.gt < u) (hf2 : u ≤ r.gt + R.win) (hh : eaI r.ea u = none) (hB : B ≤ w.heap.size) (hT : T + 1 ≤ 500) (hap : 0 < n -> In ao fun b => b ≠ R.g) : Calls Try.prog 40 #[.pointer (some ⟨R.b, 0, none⟩), .int .i64 q, .agg #[.int .i64 t.e, .int .i64 t.l, .int .i64 t.i, .int .i64 t.c, .int .i64 (u : Int), .slice ao n c]] w fun e w' => ∃ k : Nat, q = (k : Int) /\ k < R.n /\ TkF w w' R k r B T u bs e := by
 generalize hW : w.alloc (.cells #[.int .i64 t.e, .int .i64 t.l, .int .i64 t.i, .int .i64 t.c, .int .i64 (u : Int), .slice ao n c] 55) = W
 have hbW := bW0 hW
 have hblk := hQ0 hW
 have a0 : W.cell? ⟨w.heap.size, 0, none⟩ = some (.int .i64 t.e) := bC hblk 0
 have a1 : W.cell? ⟨w.heap.size, 1, none⟩ = some (.int .i64 t.l) := bC hblk 1
 have a2 : W.cell? ⟨w.heap.size, 2, none⟩ = some (.int .i64 t.i) := bC hblk 2
 have a3 : W.cell? ⟨w.heap.size, 3, none⟩ = some (.int .i64 t.c) := bC hblk 3
 have a4 : W.cell? ⟨w.heap.size, 4, none⟩ = some (.int .i64 (u : Int)) := bC hblk 4
 have a5 : W.cell? ⟨w.heap.size, 5, none⟩ = some (.slice ao n c) := bC hblk 5
 have hRW := h.still hbW
 have HbW : Hid (Below w.heap.size w W) := hbW
 have HI : Hid (Calls Try.prog 63 #[.pointer (some ⟨R.b, 0, none⟩), .int .i64 q] W fun e w' => e = .returned (.bool true) /\ W = w') := is_yes hRW hq
 obtain ⟨k, rfl, hk, he, hpe⟩ := rat_es hq
 have hc := hRW.ce hk he
 have hr := hRW.el k hk
 rw [he] at hr
 have s3 := h.t1
 have s4 := h.w1
 have s5 := hr.s3
 have i1 : (0 : Int) ≤ (k : Int) := Int.natCast_nonneg _
 have i2 : (k : Int) < (R.n : Int) := by omega
 have c4 := hc.c4
 have c5 := hc.c5
 have c6 := hc.c6
 have c7 := hc.c7
 have HQ : Hid (decide (t = R.tag) = true) := (show _ = _ from by rw [decide_eq_true_eq]; exact ht)
 have h0 : ¬ (u : Int) < 1 := by omega
 have h1 : ¬ (u : Int) > 4611686018427387904 := by omega
 have h2 : ((n : Int) == 0) = false := by rw [beq_eq_false_iff_ne]; simp [inR] at hn; omega
 have h3 : ¬ (n : Int) > 300 := by simp [inR] at hn; omega
 have HR : Hid (R.Ok W B T) := hRW
 have HR0 : Hid (R.Ok w B T) := h
 have HE : Hid (R.es k = r) := he
 have Hblk : Hid (W.heap[w.heap.size]? = some (.cells #[.int .i64 t.e, .int .i64 t.l, .int .i64 t.i, .int .i64 t.c, .int .i64 (u : Int), .slice ao n c] 55 (0, 0))) := hblk
 have hgw : w.heap.size ≠ R.g := h.gw (Nat.le_refl _)
 have Hr : Hid (r.an ≤ r.ps.length /\ r.gt + r.ea.length ≤ T) := (show _ /\ _ from ⟨hr.s1, hr.s3⟩)
 obtain ⟨ea, ec, hev⟩ := hr.evs
 obtain ⟨el, hel⟩ : ∃ l, r.ea.length = l := ⟨_, rfl⟩
 rw [hel] at hev s5
 have Hev : Hid (r.ev = .slice ea el ec /\ r.ea.length = el) := (show _ /\ _ from ⟨hev, hel⟩)
 obtain ⟨ix, hix⟩ : ∃ i, eaV r.ea u = i := ⟨_, rfl⟩
 have hix0 : ix = -1 := by rw [<- hix]; unfold eaV; rw [hh]
 have Hix : Hid (eaV r.ea u = ix) := hix
 have Hs4 : Hid (∀ x ∈ r.ea, x.1 ≤ 4611686018427387904) := hr.s4
 have Hrd : Hid (Rd w ao n c bs) := hrd
 have hne2 : R.b ≠ R.g := h.b_g
 have hn1 : 0 < n /\ n ≤ 300 := by simp [inR] at hn; omega
 have hne : 0 < n -> In ao fun b => b ≠ R.g := fun hp => hap hp
 clear hix
 clear h hq hblk hbW hRW hc hr he hpe ht hn hev hel hrd hap hh
 go_enter Try.func40, Try.ntmps40
 go_wp2_with (first | (go_at_call 63; refine HI.out.mono ?_; rintro e w' ⟨rfl, rfl⟩) | fail)
 refine wp_region_held_drew (S := (fun w' => w'.cell? ⟨w.heap.size, 0, none⟩ = some (.int .i64 t.e) /\ w'.cell? ⟨w.heap.size, 1, none⟩ = some (.int .i64 t.l) /\ w'.cell? ⟨w.heap.size, 2, none⟩ = some (.int .i64 t.i) /\ w'.cell? ⟨w.heap.size, 3, none⟩ = some (.int .i64 t.c) /\ w'.cell? ⟨R.b, 4, none⟩ = some (.int .i64 R.tag.e) /\ w'.cell? ⟨R.b, 5, none⟩ = some (.int .i64 R.tag.l) /\ w'.cell? ⟨R.b, 6, none⟩ = some (.int .i64 R.tag.i) /\ w'.cell? ⟨R.b, 7, none⟩ = some (.int .i64 R.tag.c))) (by kernel_rfl) ⟨(dW0 a0), (dW0 a1), (dW0 a2), (dW0 a3), (dW0 c4), (dW0 c5), (dW0 c6), (dW0 c7)⟩ (fun hH => ?_)
 simp only [Act.put, lA, lC, lN, zA]
 refine tG 0 36 (.pointer (some ⟨w.heap.size, 0, none⟩)) rfl hH ?_
 simp only [aP, sA, sZ, sC]
 refine tL 1 37 (.agg #[.int .i64 t.e, .int .i64 t.l, .int .i64 t.i, .int .i64 t.c]) rfl hH ?_
 simp only [aP, sA, sZ, sC]
 refine tG 2 38 (.pointer (some ⟨R.b, 0, none⟩)) rfl hH ?_
 simp only [aP, sA, sZ, sC]
 refine tG 3 39 (.pointer (some ⟨R.b, 0, none⟩)) rfl hH ?_
 simp only [aP, sA, sZ, sC]
 refine tG 4 40 (.pointer (some ⟨R.b, 4, none⟩)) rfl hH ?_
 simp only [aP, sA, sZ, sC]
 refine tL 5 41 (.agg #[.int .i64 R.tag.e, .int .i64 R.tag.l, .int .i64 R.tag.i, .int .i64 R.tag.c]) rfl hH ?_
 simp only [aP, sA, sZ, sC]
 refine wX 6 (.bool (!(true))) rfl (Or.inl ⟨by rfl, fun w' hS => run_neqop 39 (.tmp 37) (.tmp 41) 39 rfl _ _ (by rfl) (by rfl) guard_id _ (by have e1 := eq_tag (w := w') t R.tag; rw [HQ.out] at e1; exact e1)⟩) hH ?_
 simp only [aP, gA, gZ, gC, sA, sZ, sC]
 refine wpAnyH_done (by kernel_rfl) ?_ _
 clear hH
 have hbD : Below W.heap.size W W.drew := dB _
 have hRV := HR.out.still hbD
 have hcV := hRV.ce hk HE.out
 have b4 := bA hbD a4
 have b8 := hcV.c8
 have b2 := hcV.c2
 have b3 := hcV.e3
 obtain ⟨gt, hgt⟩ : ∃ g, r.gt = g := ⟨_, rfl⟩
 have Hgt : Hid (r.gt = gt) := hgt
 rw [hgt] at b3 s5 hf hf2
 have HbV : Hid (Below w.heap.size w W.drew) := HbW.out.drew
 have HRV : Hid (R.Ok W.drew B T) := hRV
 have HblkV : Hid (W.drew.heap[w.heap.size]? = some (.cells #[.int .i64 t.e, .int .i64 t.l, .int .i64 t.i, .int .i64 t.c, .int .i64 (u : Int), .slice ao n c] 55 (0, 0))) := (show _ = _ from (hbD.block _ (lt_heap Hblk.out)).trans Hblk.out)
 generalize W.drew = V at *
 clear hbD hRV hcV a0 a1 a2 a3 a4 a5 c4 c5 c6 c7 Hblk HQ HI
 go_wp2
 refine wp_region_held_drew (S := (fun w' => w'.cell? ⟨w.heap.size, 4, none⟩ = some (.int .i64 (u : Int)) /\ w'.cell? ⟨R.b, 8, none⟩ = some (.slice (some ⟨R.g, 0, none⟩) R.n R.c) /\ w'.cell? ⟨R.g, k * 6 + 3, none⟩ = some (.int .i64 (gt : Int)) /\ w'.cell? ⟨R.b, 2, none⟩ = some (.int .i64 (R.win : Int)))) (by kernel_rfl) ⟨(dW0 b4), (dW0 b8), (dW0 b3), (dW0 b2)⟩ (fun hH => ?_)
 simp only [Act.put, lA, lC, lN, zA]
 refine tG 0 43 (.pointer (some ⟨w.heap.size, 4, none⟩)) rfl hH ?_
 simp only [aP, sA, sZ, sC]
 refine tL 1 44 (.int .i64 (u : Int)) rfl hH ?_
 simp only [aP, sA, sZ, sC]
 refine tG 2 45 (.pointer (some ⟨R.b, 0, none⟩)) rfl hH ?_
 simp only [aP, sA, sZ, sC]
 refine tG 3 46 (.pointer (some ⟨R.b, 0, none⟩)) rfl hH ?_
 simp only [aP, sA, sZ, sC]
 refine tG 4 47 (.pointer (some ⟨R.b, 8, none⟩)) rfl hH ?_
 simp only [aP, sA, sZ, sC]
 refine tL 5 48 (.slice (some ⟨R.g, 0, none⟩) R.n R.c) rfl hH ?_
 simp only [aP, sA, sZ, sC]
 refine tG 6 49 (.int .i64 (k : Int)) rfl hH ?_
 simp only [aP, sA, sZ, sC]
 refine tG 7 50 (.pointer (some ⟨R.g, k * 6, none⟩)) rfl hH ?_
 simp only [aP, sA, sZ, sC]
 refine tG 8 51 (.pointer (some ⟨R.g, k * 6 + 3, none⟩)) rfl hH ?_
 simp only [aP, sA, sZ, sC]
 refine tL 9 52 (.int .i64 (gt : Int)) rfl hH ?_
 simp only [aP, sA, sZ, sC]
 refine tG 10 53 (.pointer (some ⟨R.b, 0, none⟩)) rfl hH ?_
 simp only [aP, sA, sZ, sC]
 refine tG 11 54 (.pointer (some ⟨R.b, 0, none⟩)) rfl hH ?_
 simp only [aP, sA, sZ, sC]
 refine tG 12 55 (.pointer (some ⟨R.b, 2, none⟩)) rfl hH ?_
 simp only [aP, sA, sZ, sC]
 refine tL 13 56 (.int .i64 (R.win : Int)) rfl hH ?_
 simp only [aP, sA, sZ, sC]
 refine tX 14 57 (.int .i64 ((gt : Int) + (R.win : Int))) rfl (Or.inl ⟨by rfl, fun w' hS => by (go_simp <;> exact wrap_id (by omega) (by omega))⟩) hH ?_
 simp only [aP, sA, sZ, sC]
 refine tX 15 58 (.bool false) rfl (Or.inl ⟨by rfl, fun w' hS => by (go_simp <;> omega)⟩) hH ?_
 simp only [aP, sA, sZ, sC]
 refine wpAnyH_done (by kernel_rfl) ?_ _
 clear hH
 have hbE : Below V.heap.size V V.drew := dB _
 have hRE := HRV.out.still hbE
 have HbE : Hid (Below w.heap.size w V.drew) := HbV.out.drew
 have hblkE : V.drew.heap[w.heap.size]? = some (.cells #[.int .i64 t.e, .int .i64 t.l, .int .i64 t.i, .int .i64 t.c, .int .i64 (u : Int), .slice ao n c] 55 (0, 0)) := (hbE.block _ (lt_heap HblkV.out)).trans HblkV.out
 generalize V.drew = V1 at *
 have hcE := hRE.ce hk HE.out
 have n8 := hcE.c8
 have n5 := hcE.e5
 have f5 := hRE.row.fz (k * 6 + 5)
 have hS := hRE.set1 (i := 5) (v := .bool true) (r' := { r with ow := true }) hk HE.out (by omega) rfl rfl rfl rfl rfl Hr.out.1 (Nat.le_refl _) s3 Hr.out.2
 have hblkU : (V1.setCell ⟨R.g, k * 6 + 5, none⟩ (.bool true)).heap[w.heap.size]? = some (.cells #[.int .i64 t.e, .int .i64 t.l, .int .i64 t.i, .int .i64 t.c, .int .i64 (u : Int), .slice ao n c] 55 (0, 0)) := blk_set_ne hblkE hgw
 generalize hU : V1.setCell ⟨R.g, k * 6 + 5, none⟩ (.bool true) = U at hS hblkU
 have hcU := hS.ok.ce (k := k) (r := { r with ow := true }) hk (upd_same _ _ _)
 have u4 : U.cell? ⟨w.heap.size, 4, none⟩ = some (.int .i64 (u : Int)) := bC hblkU 4
 have u8 : U.cell? ⟨R.b, 8, none⟩ = some (.slice (some ⟨R.g, 0, none⟩) R.n R.c) := hcU.c8
 have u3 : U.cell? ⟨R.g, k * 6 + 3, none⟩ = some (.int .i64 (gt : Int)) := by have := hcU.e3; rw [show ({ r with ow := true } : Rn).gt = gt from Hgt.out] at this; exact this
 have u5 : U.cell? ⟨R.g, k * 6 + 4, none⟩ = some (.slice ea el ec) := by have := hcU.e4; rw [show ({ r with ow := true } : Rn).ev = .slice ea el ec from Hev.out.1] at this; exact this
 have HS : Hid (Rstep w U R (R.put k { r with ow := true }) B T) := (show Rstep _ _ _ _ _ _ from (Rstep.below HR0.out HbE.out).trans hS)
 have HEa : Hid (∀ D, Below U.heap.size U D -> Calls Try.prog 79 #[.slice ea el ec, .int .i64 (u : Int)] D fun e w' => e = .returned (.int .i64 ix) /\ Below D.heap.size D w') := fun D hb => (show Calls _ _ _ _ _ from by
  have hre := (hS.ok.el k hk).re
  have e1 : (R.put k { r with ow := true }).es k = { r with ow := true } := upd_same _ _ _
  rw [e1] at hre
  have hre2 : U.ownsRow B 122 2 r.ev r.ea.length (r.ea.flatMap eac) := hre
  have hrd := RdE.of hre2 (by have := Hr.out.2; omega) Hs4.out
  have := early_any (hrd.still hb) hu
  rw [Hix.out, Hev.out.1] at this
  exact this)
 have u6 : U.cell? ⟨w.heap.size, 5, none⟩ = some (.slice ao n c) := bC hblkU 5
 have hKU : Kept w U (PP R k) := (Kept.ofBelow HbE.out _).step (by rw [<- hU]; exact kset (P := fun j => j = R.g) _ _ _ _ rfl) (fun j hj => .inl (.inl hj))
 have HKU : Hid (Kept w U (PP R k)) := hKU
 have HUk : Hid ((R.put k { r with ow := true }).Ok U B T) := hS.ok
 clear hbE hRE hcE hblkE hS hblkU hcU HblkV HRV HbV b2 b3 b4 b8 hKU hgt
 go_wp2
 refine wp_region_held_drew (S := (fun w' => w'.cell? ⟨w.heap.size, 4, none⟩ = some (.int .i64 (u : Int)) /\ w'.cell? ⟨R.b, 8, none⟩ = some (.slice (some ⟨R.g, 0, none⟩) R.n R.c) /\ w'.cell? ⟨R.g, k * 6 + 3, none⟩ = some (.int .i64 (gt : Int)) /\ w'.cell? ⟨R.g, k * 6 + 4, none⟩ = some (.slice ea el ec))) (by kernel_rfl) ⟨(dW0 u4), (dW0 u8), (dW0 u3), (dW0 u5)⟩ (fun hH => ?_)
 simp only [Act.put, lA, lC, lN, zA]
 refine tG 0 66 (.pointer (some ⟨w.heap.size, 4, none⟩)) rfl hH ?_
 simp only [aP, sA, sZ, sC]
 refine tL 1 67 (.int .i64 (u : Int)) rfl hH ?_
 simp only [aP, sA, sZ, sC]
 refine tG 2 68 (.pointer (some ⟨R.b, 0, none⟩)) rfl hH ?_
 simp only [aP, sA, sZ, sC]
 refine tG 3 69 (.pointer (some ⟨R.b, 0, none⟩)) rfl hH ?_
 simp only [aP, sA, sZ, sC]
 refine tG 4 70 (.pointer (some ⟨R.b, 8, none⟩)) rfl hH ?_
 simp only [aP, sA, sZ, sC]
 refine tL 5 71 (.slice (some ⟨R.g, 0, none⟩) R.n R.c) rfl hH ?_
 simp only [aP, sA, sZ, sC]
 refine tG 6 72 (.int .i64 (k : Int)) rfl hH ?_
 simp only [aP, sA, sZ, sC]
 refine tG 7 73 (.pointer (some ⟨R.g, k * 6, none⟩)) rfl hH ?_
 simp only [aP, sA, sZ, sC]
 refine tG 8 74 (.pointer (some ⟨R.g, k * 6 + 3, none⟩)) rfl hH ?_
 simp only [aP, sA, sZ, sC]
 refine tL 9 75 (.int .i64 (gt : Int)) rfl hH ?_
 simp only [aP, sA, sZ, sC]
 refine tX 10 76 (.bool false) rfl (Or.inl ⟨by rfl, fun w' hS => by (go_simp <;> omega)⟩) hH ?_
 simp only [aP, sA, sZ, sC]
 refine tG 11 77 (.bool false) rfl hH ?_
 simp only [aP, sA, sZ, sC]
 refine tK 12 78 (.pointer (some ⟨R.b, 0, none⟩)) rfl hH ?_
 simp only [aP, sA, sZ, sC]
 refine tK 13 79 (.pointer (some ⟨R.b, 0, none⟩)) rfl hH ?_
 simp only [aP, sA, sZ, sC]
 refine tK 14 80 (.pointer (some ⟨R.b, 8, none⟩)) rfl hH ?_
 simp only [aP, sA, sZ, sC]
 refine tM 15 81 (.slice (some ⟨R.g, 0, none⟩) R.n R.c) rfl hH ?_
 simp only [aP, sA, sZ, sC]
 refine tK 16 82 (.int .i64 (k : Int)) rfl hH ?_
 simp only [aP, sA, sZ, sC]
 refine tK 17 83 (.pointer (some ⟨R.g, k * 6, none⟩)) rfl hH ?_
 simp only [aP, sA, sZ, sC]
 refine tK 18 84 (.pointer (some ⟨R.g, k * 6 + 4, none⟩)) rfl hH ?_
 simp only [aP, sA, sZ, sC]
 refine tM 19 85 (.slice ea el ec) rfl hH ?_
 simp only [aP, sA, sZ, sC]
 refine tK 20 86 (.pointer (some ⟨w.heap.size, 4, none⟩)) rfl hH ?_
 simp only [aP, sA, sZ, sC]
 refine tM 21 87 (.int .i64 (u : Int)) rfl hH ?_
 simp only [aP, sA, sZ, sC]
 have hbD5 : Below U.heap.size U U.drew := dB _
 have q0 := bA hbD5 u4
 have q1 := bA hbD5 u8
 have q2 := bA hbD5 u3
 have q3 := bA hbD5 u5
 generalize U.drew = D5 at *
 refine rY 22 rfl fun K hK => ?_
 go_simp
 refine (HEa.out D5 hbD5).mono ?_
 rintro e w5 ⟨rfl, hb5⟩
 refine hK.out _ _ ⟨(bA hb5 q0), (bA hb5 q1), (bA hb5 q2), (bA hb5 q3)⟩ (fun hH => ?_)
 clear hK K
 refine tX 23 89 (.bool false) rfl (Or.inl ⟨by kernel_rfl, fun w' hS => by (go_simp <;> omega)⟩) hH ?_
 simp only [aP, sA, sZ, sC]
 refine tG 24 90 (.bool false) rfl hH ?_
 simp only [aP, sA, sZ, sC]
 refine wpAnyH_done (by kernel_rfl) ?_ _
 clear hH
 have hb55 : Below U.heap.size U w5 := bstep hbD5 hb5
 have HCp : Hid (∀ D, Below w5.heap.size w5 D -> Calls Try.prog 65 #[.slice ao n c] D fun e w' => CpO D w' bs e) := fun D hb => (show Calls _ _ _ _ _ from copied_any ((Hrd.out.still HbE.out).keepU hU hne hb55 hb) hn1.1 hn1.2)
 have hre5 : ∀ D, Below w5.heap.size w5 D -> D.ownsRow B 122 2 (.slice ea el ec) el (r.ea.flatMap eac) := fun D hb => by
  have h1 := ((HUk.out.still (bstep hb55 hb)).el k hk).re
  have e1 : (R.put k { r with ow := true }).es k = { r with ow := true } := upd_same _ _ _
  rw [e1] at h1
  have h2 : D.ownsRow B 122 2 r.ev r.ea.length (r.ea.flatMap eac) := h1
  rw [Hev.out.2, Hev.out.1] at h2
  exact h2
 have HOw : Hid (∀ D, Below w5.heap.size w5 D -> D.ownsRow B 122 2 (.slice ea el ec) el (r.ea.flatMap eac)) := hre5
 have HB0 : Hid (B ≤ w5.heap.size) := (show _ ≤ _ from Nat.le_trans hB (Nat.le_trans HKU.out.size hb55.size))
 have hnv : ∀ {j t : Nat} {C : Array Value}, w5.heap[j]? = some (.cells C t (0, 0)) -> t ≠ 122 -> ¬ (Value.slice ea el ec).ownBlock = some j := fun hj ht e => by
  obtain ⟨C', hC'⟩ := own_ty (hre5 w5 (Below.refl _ _)) e
  exact blk_ne hC' hj (fun e2 => ht e2.symm) rfl
 have h5R := HUk.out.still hb55
 have HNb : Hid (¬ (Value.slice ea el ec).ownBlock = some R.b) := (show ¬ _ from hnv h5R.blk (by decide))
 have HNg : Hid (¬ (Value.slice ea el ec).ownBlock = some R.g) := (show ¬ _ from by obtain ⟨C, hC, _⟩ := h5R.row; exact hnv hC (by decide))
 have HNw : Hid (¬ (Value.slice ea el ec).ownBlock = some w.heap.size) := (show ¬ _ from fun e => by
  have h1 : (R.es k).ev.ownBlock = some w.heap.size := by rw [HE.out, Hev.out.1]; exact e
  have := HR0.out.lt (.inr (.inr ⟨k, hk, .inr (.inl h1)⟩))
  omega)
 have v8 := bA hb55 u8
 have v4 := bA hb55 u4
 have v6 := bA hb55 u6
 have vev := bA hb55 u5
 have HZc : Hid (∀ D D', Below w5.heap.size w5 D -> Kept D D' (fun j => (Value.slice ea el ec).ownBlock = some j) -> ∃ zv, D'.cell? ⟨R.g, k * 6 + 4, none⟩ = some zv) := fun D D' hb hkk => ⟨_, kC hkk HNg.out (bA hb vev)⟩
 have HZf : Hid (∀ D D', Below w5.heap.size w5 D -> Kept D D' (fun j => (Value.slice ea el ec).ownBlock = some j) -> D'.frozen? ⟨R.g, k * 6 + 4, none⟩ = false) := fun D D' hb hkk => (show _ = _ from (((HUk.out.still (bstep hb55 hb)).row.keep hkk HNg.out).fz _))
 have HFirst : Hid (∀ D w6 w7 y gg cap, Below w5.heap.size w5 D -> Below D.heap.size D w6 -> y.Ok w6 D.heap.size -> w7.ownsRow B 122 2 (.slice (some ⟨gg, 0, none⟩) (el + 1) cap) (el + 1) (r.ea.flatMap eac ++ [.int .i64 (u : Int), y.v]) -> Kept w6 w7 (fun j => (Value.slice ea el ec).ownBlock = some j) -> ((Value.slice ea el ec).ownBlock = some gg ∨ w6.heap.size ≤ gg) -> TkS w (w7.setCell ⟨R.g, k * 6 + 4, none⟩ (.slice (some ⟨gg, 0, none⟩) (el + 1) cap)) R k r B (r.ea ++ [(u, y)]) (.slice (some ⟨gg, 0, none⟩) (el + 1) cap) 0 [] (.slice none 0 0)) := fun D w6 w7 y gg cap hD h6 hy ho hkk hg => (show TkS _ _ _ _ _ _ _ _ _ _ _ from by
  have h9 := Hev.out.2
  have hp := Hev.out.1
  rw [<- hp] at hkk hg
  subst h9
  exact tk_first HR0.out hk HE.out HUk.out HKU.out (bstep hb55 hD) h6 hB hy ho hkk hg)
 clear hbD5 hb5 q0 q1 q2 q3 HS HEa hb55 hre5 hnv h5R u3 u4 u5 u6 u8 HUk HKU n8 n5 f5
 go_upto_region 12 with (fail)
 go_cut [111] (fun _ wx => Hid (∃ (y : Bn) (eg ecp : Nat), y.bs = bs /\ TkS w wx R k r B (r.ea ++ [(u, y)]) (.slice (some ⟨eg, 0, none⟩) (el + 1) ecp) 0 [] (.slice none 0 0)))
 case first =>
  go_wp2_with (fail)
  refine wp_region_held_drew (S := (fun w' => w'.cell? ⟨R.b, 8, none⟩ = some (.slice (some ⟨R.g, 0, none⟩) R.n R.c) /\ w'.cell? ⟨w.heap.size, 4, none⟩ = some (.int .i64 (u : Int)) /\ w'.cell? ⟨w.heap.size, 5, none⟩ = some (.slice ao n c))) (by kernel_rfl) ⟨(dW0 v8), (dW0 v4), (dW0 v6)⟩ (fun hH => ?_)
  simp only [Act.put, lA, lC, lN, zA]
  refine tG 0 91 (.pointer (some ⟨R.b, 0, none⟩)) rfl hH ?_
  simp only [aP, sA, sZ, sC]
  refine tG 1 92 (.pointer (some ⟨R.b, 0, none⟩)) rfl hH ?_
  simp only [aP, sA, sZ, sC]
  refine tG 2 93 (.pointer (some ⟨R.b, 8, none⟩)) rfl hH ?_
  simp only [aP, sA, sZ, sC]
  refine tL 3 94 (.slice (some ⟨R.g, 0, none⟩) R.n R.c) rfl hH ?_
  simp only [aP, sA, sZ, sC]
  refine tG 4 95 (.int .i64 (k : Int)) rfl hH ?_
  simp only [aP, sA, sZ, sC]
  refine tG 5 96 (.pointer (some ⟨R.b, 0, none⟩)) rfl hH ?_
  simp only [aP, sA, sZ, sC]
  refine tG 6 97 (.pointer (some ⟨R.b, 0, none⟩)) rfl hH ?_
  simp only [aP, sA, sZ, sC]
  refine tG 7 98 (.pointer (some ⟨R.b, 8, none⟩)) rfl hH ?_
  simp only [aP, sA, sZ, sC]
  refine tL 8 99 (.slice (some ⟨R.g, 0, none⟩) R.n R.c) rfl hH ?_
  simp only [aP, sA, sZ, sC]
  refine tG 9 100 (.int .i64 (k : Int)) rfl hH ?_
  simp only [aP, sA, sZ, sC]
  refine tG 10 101 (.pointer (some ⟨R.g, k * 6, none⟩)) rfl hH ?_
  simp only [aP, sA, sZ, sC]
  refine tG 11 102 (.pointer (some ⟨R.g, k * 6 + 4, none⟩)) rfl hH ?_
  simp only [aP, sA, sZ, sC]
  refine tG 13 104 (.pointer (some ⟨w.heap.size, 4, none⟩)) rfl hH ?_
  simp only [aP, sA, sZ, sC]
  refine tL 14 105 (.int .i64 (u : Int)) rfl hH ?_
  simp only [aP, sA, sZ, sC]
  refine tG 15 106 (.pointer (some ⟨w.heap.size, 5, none⟩)) rfl hH ?_
  simp only [aP, sA, sZ, sC]
  refine tL 16 107 (.slice ao n c) rfl hH ?_
  simp only [aP, sA, sZ, sC]
  have hbD6 : Below w5.heap.size w5 w5.drew := dB _
  have q0 := bA hbD6 v8
  have q1 := bA hbD6 v4
  have q2 := bA hbD6 v6
  have iq0 := bA hbD6 vev
  generalize w5.drew = D6 at *
  refine wpAnyH_ready (rs := [12, 17]) (by kernel_rfl) (by simp) ?_
  refine AllReadyH.cons rfl (fun K hK => ?_) (AllReadyH.cons rfl (fun K hK => ?_) AllReadyH.nil)
  ·have zim := iq0
   go_simp
   clear zim
   refine hK.out _ _ ⟨q0, q1, q2⟩ (fun hH => ?_)
   clear hK K
   refine rY 17 rfl fun K hK => ?_
   go_simp
   refine (HCp.out D6 hbD6).mono ?_
   rintro e w6 hx6
   obtain ⟨⟨y, he6, hy6, hok6⟩, hb6⟩ := hx6
   rw [show y.v = Value.slice (some ⟨y.k, 0, none⟩) y.bs.length y.c from rfl] at he6
   subst he6
   have Hy6 : Hid (y.bs = bs) := hy6
   have Hok6 : Hid (y.Ok w6 D6.heap.size) := hok6
   clear hy6 hok6
   refine hK.out _ _ ⟨(bA hb6 q0), (bA hb6 q1), (bA hb6 q2)⟩ (fun hH => ?_)
   clear hK K
   refine tG 18 109 (.agg #[.int .i64 (u : Int), .slice (some ⟨y.k, 0, none⟩) y.bs.length y.c]) rfl hH ?_
   simp only [aP, sA, sZ, sC]
   refine rY 19 rfl fun K hK => ?_
   go_simp
   refine hK.out _ _ ⟨(aL0 (bA hb6 q0)), (aL0 (bA hb6 q1)), (aL0 (bA hb6 q2))⟩ (fun hH => ?_)
   clear hK K
   obtain ⟨w6a, hw6a⟩ : ∃ x, w6.alloc (.cells ([.int .i64 (u : Int), .slice (some ⟨y.k, 0, none⟩) y.bs.length y.c] : List Value).toArray 122) = x := ⟨_, rfl⟩
   have hb6a : Below w6.heap.size w6 w6a := by rw [<- hw6a]; exact balloc (Below.refl _ _)
   rw [hw6a] at hH ⊢
   refine rY 20 rfl fun K hK => ?_
   refine step_pushEa (B := B) rfl _ _ rfl w6 _ _ [.int .i64 (u : Int), .slice (some ⟨y.k, 0, none⟩) y.bs.length y.c] rfl (ea_one _ _ _ _) rfl el (HOw.out w6 (bstep hbD6 hb6)) hw6a.symm rfl (by omega) (Nat.le_trans (Nat.le_trans HB0.out hbD6.size) hb6.size) ?_
   intro gg cap w7 ho7 hk7 hg7 hl7
   have z8 := kC hk7 HNb.out (bA hb6 q0)
   have z4 := kC hk7 HNw.out (bA hb6 q1)
   have z6 := kC hk7 HNw.out (bA hb6 q2)
   refine hK.out _ _ ⟨z8, z4, z6⟩ (fun hH => ?_)
   clear hK K
   refine tG 21 112 (.pointer (some ⟨R.g, k * 6, none⟩)) rfl hH ?_
   simp only [aP, sA, sZ, sC]
   refine tG 22 113 (.pointer (some ⟨R.g, k * 6 + 4, none⟩)) rfl hH ?_
   simp only [aP, sA, sZ, sC]
   refine rY 23 rfl fun K hK => ?_
   have hzf := HZf.out w6 w7 (bstep hbD6 hb6) hk7
   obtain ⟨zv, hzv⟩ := HZc.out w6 w7 (bstep hbD6 hb6) hk7
   go_simp
   refine hK.out _ _ ⟨(below_set1 hne2 z8), (below_set1 hgw z4), (below_set1 hgw z6)⟩ (fun hH => ?_)
   clear hK K
   refine wpAnyH_done (by kernel_rfl) ?_ _
   clear hH
   have HT0 : Hid (∃ (y : Bn) (eg ecp : Nat), y.bs = bs /\ TkS w (w7.setCell ⟨R.g, k * 6 + 4, none⟩ (.slice (some ⟨gg, 0, none⟩) (el + 1) cap)) R k r B (r.ea ++ [(u, y)]) (.slice (some ⟨eg, 0, none⟩) (el + 1) ecp) 0 [] (.slice none 0 0)) := (show ∃ (y : Bn) (eg ecp : Nat), _ from ⟨y, gg, cap, Hy6.out, HFirst.out D6 w6 w7 y gg cap hbD6 hb6 Hok6.out ho7 hk7 hg7⟩)
   clear hbD6 hb6 Hok6 ho7 hk7 hg7 hl7 z8 z4 z6 Hy6
   go_wp2_with (fail)
   go_meet
   exact HT0
  ·go_simp
   refine (HCp.out D6 hbD6).mono ?_
   rintro e w6 hx6
   obtain ⟨⟨y, he6, hy6, hok6⟩, hb6⟩ := hx6
   rw [show y.v = Value.slice (some ⟨y.k, 0, none⟩) y.bs.length y.c from rfl] at he6
   subst he6
   have Hy6 : Hid (y.bs = bs) := hy6
   have Hok6 : Hid (y.Ok w6 D6.heap.size) := hok6
   clear hy6 hok6
   refine hK.out _ _ ⟨(bA hb6 q0), (bA hb6 q1), (bA hb6 q2)⟩ (fun hH => ?_)
   clear hK K
   refine tG 18 109 (.agg #[.int .i64 (u : Int), .slice (some ⟨y.k, 0, none⟩) y.bs.length y.c]) rfl hH ?_
   simp only [aP, sA, sZ, sC]
   refine wpAnyH_ready (rs := [12, 19]) (by kernel_rfl) (by simp) ?_
   refine AllReadyH.cons rfl (fun K hK => ?_) (AllReadyH.cons rfl (fun K hK => ?_) AllReadyH.nil)
   ·have zim := (bA hb6 iq0)
    go_simp
    clear zim
    refine hK.out _ _ ⟨(bA hb6 q0), (bA hb6 q1), (bA hb6 q2)⟩ (fun hH => ?_)
    clear hK K
    refine rY 19 rfl fun K hK => ?_
    go_simp
    refine hK.out _ _ ⟨(aL0 (bA hb6 q0)), (aL0 (bA hb6 q1)), (aL0 (bA hb6 q2))⟩ (fun hH => ?_)
    clear hK K
    obtain ⟨w6a, hw6a⟩ : ∃ x, w6.alloc (.cells ([.int .i64 (u : Int), .slice (some ⟨y.k, 0, none⟩) y.bs.length y.c] : List Value).toArray 122) = x := ⟨_, rfl⟩
    have hb6a : Below w6.heap.size w6 w6a := by rw [<- hw6a]; exact balloc (Below.refl _ _)
    rw [hw6a] at hH ⊢
    refine rY 20 rfl fun K hK => ?_
    refine step_pushEa (B := B) rfl _ _ rfl w6 _ _ [.int .i64 (u : Int), .slice (some ⟨y.k, 0, none⟩) y.bs.length y.c] rfl (ea_one _ _ _ _) rfl el (HOw.out w6 (bstep hbD6 hb6)) hw6a.symm rfl (by omega) (Nat.le_trans (Nat.le_trans HB0.out hbD6.size) hb6.size) ?_
    intro gg cap w7 ho7 hk7 hg7 hl7
    have z8 := kC hk7 HNb.out (bA hb6 q0)
    have z4 := kC hk7 HNw.out (bA hb6 q1)
    have z6 := kC hk7 HNw.out (bA hb6 q2)
    refine hK.out _ _ ⟨z8, z4, z6⟩ (fun hH => ?_)
    clear hK K
    refine tG 21 112 (.pointer (some ⟨R.g, k * 6, none⟩)) rfl hH ?_
    simp only [aP, sA, sZ, sC]
    refine tG 22 113 (.pointer (some ⟨R.g, k * 6 + 4, none⟩)) rfl hH ?_
    simp only [aP, sA, sZ, sC]
    refine rY 23 rfl fun K hK => ?_
    have hzf := HZf.out w6 w7 (bstep hbD6 hb6) hk7
    obtain ⟨zv, hzv⟩ := HZc.out w6 w7 (bstep hbD6 hb6) hk7
    go_simp
    refine hK.out _ _ ⟨(below_set1 hne2 z8), (below_set1 hgw z4), (below_set1 hgw z6)⟩ (fun hH => ?_)
    clear hK K
    refine wpAnyH_done (by kernel_rfl) ?_ _
    clear hH
    have HT0 : Hid (∃ (y : Bn) (eg ecp : Nat), y.bs = bs /\ TkS w (w7.setCell ⟨R.g, k * 6 + 4, none⟩ (.slice (some ⟨gg, 0, none⟩) (el + 1) cap)) R k r B (r.ea ++ [(u, y)]) (.slice (some ⟨eg, 0, none⟩) (el + 1) ecp) 0 [] (.slice none 0 0)) := (show ∃ (y : Bn) (eg ecp : Nat), _ from ⟨y, gg, cap, Hy6.out, HFirst.out D6 w6 w7 y gg cap hbD6 hb6 Hok6.out ho7 hk7 hg7⟩)
    clear hbD6 hb6 Hok6 ho7 hk7 hg7 hl7 z8 z4 z6 Hy6
    go_wp2_with (fail)
    go_meet
    exact HT0
   ·go_simp
    refine hK.out _ _ ⟨(aL0 (bA hb6 q0)), (aL0 (bA hb6 q1)), (aL0 (bA hb6 q2))⟩ (fun hH => ?_)
    clear hK K
    obtain ⟨w6a, hw6a⟩ : ∃ x, w6.alloc (.cells ([.int .i64 (u : Int), .slice (some ⟨y.k, 0, none⟩) y.bs.length y.c] : List Value).toArray 122) = x := ⟨_, rfl⟩
    have hb6a : Below w6.heap.size w6 w6a := by rw [<- hw6a]; exact balloc (Below.refl _ _)
    rw [hw6a] at hH ⊢
    refine rY 12 rfl fun K hK => ?_
    have zim := (bA hb6a (bA hb6 iq0))
    go_simp
    clear zim
    refine hK.out _ _ ⟨(bA hb6a (bA hb6 q0)), (bA hb6a (bA hb6 q1)), (bA hb6a (bA hb6 q2))⟩ (fun hH => ?_)
    clear hK K
    refine rY 20 rfl fun K hK => ?_
    refine step_pushEa (B := B) rfl _ _ rfl w6 _ _ [.int .i64 (u : Int), .slice (some ⟨y.k, 0, none⟩) y.bs.length y.c] rfl (ea_one _ _ _ _) rfl el (HOw.out w6 (bstep hbD6 hb6)) hw6a.symm rfl (by omega) (Nat.le_trans (Nat.le_trans HB0.out hbD6.size) hb6.size) ?_
    intro gg cap w7 ho7 hk7 hg7 hl7
    have z8 := kC hk7 HNb.out (bA hb6 q0)
    have z4 := kC hk7 HNw.out (bA hb6 q1)
    have z6 := kC hk7 HNw.out (bA hb6 q2)
    refine hK.out _ _ ⟨z8, z4, z6⟩ (fun hH => ?_)
    clear hK K
    refine tG 21 112 (.pointer (some ⟨R.g, k * 6, none⟩)) rfl hH ?_
    simp only [aP, sA, sZ, sC]
    refine tG 22 113 (.pointer (some ⟨R.g, k * 6 + 4, none⟩)) rfl hH ?_
    simp only [aP, sA, sZ, sC]
    refine rY 23 rfl fun K hK => ?_
    have hzf := HZf.out w6 w7 (bstep hbD6 hb6) hk7
    obtain ⟨zv, hzv⟩ := HZc.out w6 w7 (bstep hbD6 hb6) hk7
    go_simp
    refine hK.out _ _ ⟨(below_set1 hne2 z8), (below_set1 hgw z4), (below_set1 hgw z6)⟩ (fun hH => ?_)
    clear hK K
    refine wpAnyH_done (by kernel_rfl) ?_ _
    clear hH
    have HT0 : Hid (∃ (y : Bn) (eg ecp : Nat), y.bs = bs /\ TkS w (w7.setCell ⟨R.g, k * 6 + 4, none⟩ (.slice (some ⟨gg, 0, none⟩) (el + 1) cap)) R k r B (r.ea ++ [(u, y)]) (.slice (some ⟨eg, 0, none⟩) (el + 1) ecp) 0 [] (.slice none 0 0)) := (show ∃ (y : Bn) (eg ecp : Nat), _ from ⟨y, gg, cap, Hy6.out, HFirst.out D6 w6 w7 y gg cap hbD6 hb6 Hok6.out ho7 hk7 hg7⟩)
    clear hbD6 hb6 Hok6 ho7 hk7 hg7 hl7 z8 z4 z6 Hy6
    go_wp2_with (fail)
    go_meet
    exact HT0
 case rest =>
 obtain ⟨y, eg, ecp, hy, hT0⟩ := hcut.out
 obtain ⟨l, hl⟩ : ∃ l, r.ea ++ [(u, y)] = l := ⟨_, rfl⟩
 obtain ⟨ll, hll⟩ : ∃ n, el + 1 = n := ⟨_, rfl⟩
 rw [hl, hll] at hT0
 have Hl : Hid (r.ea ++ [(u, y)] = l) := hl
 have Hll : Hid (l.length = ll /\ el + 1 = ll) := (show _ /\ _ from ⟨by rw [<- hl, <- hll, List.length_append, Hev.out.2]; rfl, hll⟩)
 have Hy : Hid (y.bs = bs) := hy
 have Hs4l : Hid (∀ x ∈ l, x.1 ≤ 4611686018427387904) := (show ∀ x ∈ l, _ from fun x hx => by
  rw [<- hl] at hx
  rcases List.mem_append.1 hx with hx | hx
  ·exact Hs4.out x hx
  ·simp at hx; subst hx; exact hu)
 have hll4 : ll ≤ 1001 := by omega
 have hgt4 : gt ≤ 1000 := by omega
 have HT0 : Hid (TkS w wc R k r B l (.slice (some ⟨eg, 0, none⟩) ll ecp) 0 [] (.slice none 0 0)) := hT0
 have HEv : Hid (∀ (wr D : World) (s m : Nat) (o : List Bn) (v : Value), TkS w wr R k r B l (.slice (some ⟨eg, 0, none⟩) ll ecp) m o v -> s ≤ 4611686018427387904 -> Below wr.heap.size wr D -> Calls Try.prog 79 #[.slice (some ⟨eg, 0, none⟩) ll ecp, .int .i64 (s : Int)] D fun e w' => e = .returned (.int .i64 (eaV l s)) /\ Below D.heap.size D w') := fun wr D s m o v hS hs hb => (show Calls _ _ _ _ _ from early_any ((RdE.of hS.re (by rw [Hll.out.1]; omega) Hs4l.out).still hb) hs)
 have x8 : wc.cell? ⟨R.b, 8, none⟩ = some (.slice (some ⟨R.g, 0, none⟩) R.n R.c) := hT0.c8
 have x4 : wc.cell? ⟨R.g, k * 6 + 4, none⟩ = some (.slice (some ⟨eg, 0, none⟩) ll ecp) := hT0.e4 hk
 have x3 : wc.cell? ⟨R.g, k * 6 + 3, none⟩ = some (.int .i64 (gt : Int)) := by have := hT0.e3 hk; rw [Nat.add_zero, Hgt.out] at this; exact this
 obtain ⟨ev9, hev9⟩ : ∃ e, eaV l (gt + 1) = e := ⟨_, rfl⟩
 have HEl : Hid (∀ D, Below wc.heap.size wc D -> Calls Try.prog 79 #[.slice (some ⟨eg, 0, none⟩) ll ecp, .int .i64 ((gt + 1 : Nat) : Int)] D fun e w' => e = .returned (.int .i64 ev9) /\ Below D.heap.size D w') := fun D hb => (show Calls _ _ _ _ _ from by rw [<- hev9]; exact HEv.out wc D (gt + 1) 0 [] _ HT0.out (by omega) hb)
 have Hev9 : Hid (eaV l (gt + 1) = ev9) := hev9
 clear hcut hT0 hl hll hy hev9
 go_wp2
 refine wp_region_held_drew (S := (fun w' => w'.cell? ⟨R.b, 8, none⟩ = some (.slice (some ⟨R.g, 0, none⟩) R.n R.c) /\ w'.cell? ⟨R.g, k * 6 + 4, none⟩ = some (.slice (some ⟨eg, 0, none⟩) ll ecp) /\ w'.cell? ⟨R.g, k * 6 + 3, none⟩ = some (.int .i64 (gt : Int)))) (by kernel_rfl) ⟨(dW0 x8), (dW0 x4), (dW0 x3)⟩ (fun hH => ?_)
 simp only [Act.put, lA, lC, lN, zA]
 refine tG 0 114 (.pointer (some ⟨R.b, 0, none⟩)) rfl hH ?_
 simp only [aP, sA, sZ, sC]
 refine tG 1 115 (.pointer (some ⟨R.b, 0, none⟩)) rfl hH ?_
 simp only [aP, sA, sZ, sC]
 refine tG 2 116 (.pointer (some ⟨R.b, 8, none⟩)) rfl hH ?_
 simp only [aP, sA, sZ, sC]
 refine tL 3 117 (.slice (some ⟨R.g, 0, none⟩) R.n R.c) rfl hH ?_
 simp only [aP, sA, sZ, sC]
 refine tG 4 118 (.int .i64 (k : Int)) rfl hH ?_
 simp only [aP, sA, sZ, sC]
 refine tG 5 119 (.pointer (some ⟨R.g, k * 6, none⟩)) rfl hH ?_
 simp only [aP, sA, sZ, sC]
 refine tG 6 120 (.pointer (some ⟨R.g, k * 6 + 4, none⟩)) rfl hH ?_
 simp only [aP, sA, sZ, sC]
 refine tL 7 121 (.slice (some ⟨eg, 0, none⟩) ll ecp) rfl hH ?_
 simp only [aP, sA, sZ, sC]
 refine tG 8 122 (.pointer (some ⟨R.b, 0, none⟩)) rfl hH ?_
 simp only [aP, sA, sZ, sC]
 refine tG 9 123 (.pointer (some ⟨R.b, 0, none⟩)) rfl hH ?_
 simp only [aP, sA, sZ, sC]
 refine tG 10 124 (.pointer (some ⟨R.b, 8, none⟩)) rfl hH ?_
 simp only [aP, sA, sZ, sC]
 refine tL 11 125 (.slice (some ⟨R.g, 0, none⟩) R.n R.c) rfl hH ?_
 simp only [aP, sA, sZ, sC]
 refine tG 12 126 (.int .i64 (k : Int)) rfl hH ?_
 simp only [aP, sA, sZ, sC]
 refine tG 13 127 (.pointer (some ⟨R.g, k * 6, none⟩)) rfl hH ?_
 simp only [aP, sA, sZ, sC]
 refine tG 14 128 (.pointer (some ⟨R.g, k * 6 + 3, none⟩)) rfl hH ?_
 simp only [aP, sA, sZ, sC]
 refine tL 15 129 (.int .i64 (gt : Int)) rfl hH ?_
 simp only [aP, sA, sZ, sC]
 refine tX 16 130 (.int .i64 ((gt + 1 : Nat) : Int)) rfl (Or.inl ⟨by rfl, fun w' hS => by (go_simp <;> (first | (rw [wrap_id (by omega) (by omega)]; omega) | (rw [wrap_id (by omega) (by omega)])))⟩) hH ?_
 simp only [aP, sA, sZ, sC]
 have hbD8 : Below wc.heap.size wc wc.drew := dB _
 have eq0 := bA hbD8 x8
 have eq1 := bA hbD8 x4
 have eq2 := bA hbD8 x3
 generalize wc.drew = D8 at *
 refine rY 17 rfl fun K hK => ?_
 go_simp
 refine (HEl.out D8 hbD8).mono ?_
 rintro e w8 ⟨rfl, hb8⟩
 refine hK.out _ _ ⟨(bA hb8 eq0), (bA hb8 eq1), (bA hb8 eq2)⟩ (fun hH => ?_)
 clear hK K
 refine tG 18 9 (.int .i64 ev9) rfl hH ?_
 simp only [aP, sA, sZ, sC]
 refine wpAnyH_done (by kernel_rfl) ?_ _
 clear hH
 have HL0 : Hid (TkS w w8 R k r B l (.slice (some ⟨eg, 0, none⟩) ll ecp) 0 [] (.slice none 0 0)) := HT0.out.still (bstep hbD8 hb8)
 clear hbD8 hb8 eq0 eq1 eq2 x8 x4 x3 HT0 HEl
 go_wp2
 go_loopw [8, 9] (fun v8 v9 wr => ∃ (m : Nat) (o : List Bn), v9 = .int .i64 (eaV l (gt + m + 1)) /\ Hid (TkS w wr R k r B l (.slice (some ⟨eg, 0, none⟩) ll ecp) m o v8)) (fun v8 _ _ => 4611686018427387904 - slen v8)
 case atStart => exact ⟨0, [], by rw [Nat.add_zero, Hev9.out], HL0⟩
 case round =>
  clear HL0 Hev9
  obtain ⟨m, o, rfl, hS⟩ := hrel
  obtain ⟨gm, hgm⟩ : ∃ g, gt + m = g := ⟨_, rfl⟩
  have Hgm : Hid (gt + m = gm /\ r.gt + m = gm) := (show _ /\ _ from ⟨hgm, by rw [Hgt.out]; exact hgm⟩)
  rw [hgm]
  clear hgm
  obtain ⟨a8, c8, hv8⟩ := row_shape' hS.out.ro
  rw [hv8] at hS
  rw [hv8]
  clear hv8
  cases hei : eaI l (gm + 1) with
  | some jx =>
   obtain ⟨z, hz⟩ := eaI_some hei
   have hev : eaV l (gm + 1) = (jx : Int) := by unfold eaV; rw [hei]
   rw [hev]
   have hjl : jx < ll := by rw [<- Hll.out.1]; exact (List.getElem?_eq_some_iff.1 hz).1
   have hz4 : gm + 1 ≤ 4611686018427387904 := Hs4l.out _ (List.mem_of_getElem? hz)
   have hrdE := RdE.of hS.out.re (by rw [Hll.out.1]; omega) Hs4l.out
   obtain ⟨g', c', hv', hcl⟩ := hrdE.at_ (by rw [Hll.out.1]; omega)
   simp only [Value.slice.injEq, Option.some.injEq, Addr.mk.injEq] at hv'
   obtain ⟨⟨hg', -, -⟩, -, -⟩ := hv'
   subst hg'
   have x1 : wr.cell? ⟨eg, jx * 2 + 1, none⟩ = some (.slice (some ⟨z.k, 0, none⟩) z.bs.length z.c) := (hcl jx _ hz).2
   have x8 := hS.out.c8
   have x4 := hS.out.e4 hk
   have m1 : (0 : Int) ≤ (jx : Int) := Int.natCast_nonneg _
   have m2 : (jx : Int) < (ll : Int) := by omega
   have m3 : (jx : Int) ≥ 0 := m1
   have hgt4' := hgt4
   have hm4 : m ≤ 1001 := by
    have := flt_all (l := l) (g := r.gt) m (fun i hi => by obtain ⟨z', _, h2⟩ := hS.out.at_ i hi; exact ⟨z', h2⟩)
    rw [Hll.out.1] at this
    omega
   have hgm4 : gm ≤ 3000 := by have := Hgm.out.1; omega
   have HO8 : Hid (wr.ownsRow w.heap.size 40 1 (.slice a8 m c8) m (o.map Bn.v)) := hS.out.ro
   have Hsz : Hid (w.heap.size ≤ wr.heap.size) := (show _ ≤ _ from hS.out.kept.size)
   have HS : Hid (TkS w wr R k r B l (.slice (some ⟨eg, 0, none⟩) ll ecp) m o (.slice a8 m c8)) := hS.out
   have Hz : Hid ((r.gt + 1 + m, z) ∈ l) := (show _ ∈ _ from by rw [show r.gt + 1 + m = gm + 1 from by have := Hgm.out.2; omega]; exact List.mem_of_getElem? hz)
   clear hS hei hz hrdE hcl hev
   go_wp2_with (first | (at_builtin; refine wl_pushB rfl _ _ rfl wr w.heap.size _ _ (.slice (some ⟨z.k, 0, none⟩) z.bs.length z.c) rfl m HO8.out rfl rfl rfl (by omega) Hsz.out ?_) | fail)
   intro gg cap w4 ho4 hk4 hg4 hl4
   obtain ⟨⟨y3, f3, y8⟩, hTn⟩ := HS.out.push HR0.out hk HE.out Hz.out ho4 hk4
   rw [Hgm.out.2] at y3
   rw [show ((r.gt + (m + 1) : Nat) : Int) = (gm : Int) + 1 from by have := Hgm.out.2; omega] at hTn
   generalize hX : w4.setCell ⟨R.g, k * 6 + 3, none⟩ (.int .i64 ((gm : Int) + 1)) = X at hTn
   have HTn : Hid (TkS w X R k r B l (.slice (some ⟨eg, 0, none⟩) ll ecp) (m + 1) (o ++ [z]) (.slice (some ⟨gg, 0, none⟩) (m + 1) cap)) := hTn
   have z8 := hTn.c8
   have z4 := hTn.e4 hk
   have z3 : X.cell? ⟨R.g, k * 6 + 3, none⟩ = some (.int .i64 ((gm + 1 : Nat) : Int)) := by have := hTn.e3 hk; rw [show r.gt + (m + 1) = gm + 1 from by have := Hgm.out.2; omega] at this; exact this
   obtain ⟨gn, hgn⟩ : ∃ g, gm + 1 = g := ⟨_, rfl⟩
   rw [hgn] at z3 hz4
   obtain ⟨ev9, hev9⟩ : ∃ e, eaV l (gn + 1) = e := ⟨_, rfl⟩
   have hgn4 : gn ≤ 4000 := by have := Hgm.out.1; omega
   have HEl : Hid (∀ D, Below X.heap.size X D -> Calls Try.prog 79 #[.slice (some ⟨eg, 0, none⟩) ll ecp, .int .i64 ((gn + 1 : Nat) : Int)] D fun e w' => e = .returned (.int .i64 ev9) /\ Below D.heap.size D w') := fun D hb => (show Calls _ _ _ _ _ from by rw [<- hev9]; exact HEv.out X D (gn + 1) _ _ _ HTn.out (by omega) hb)
   have HevN : Hid (eaV l (gt + (m + 1) + 1) = ev9) := (show _ = _ from by rw [<- hev9, show gt + (m + 1) + 1 = gn + 1 from by have := Hgm.out.1; omega])
   clear hTn ho4 hk4 hg4 hl4 HS HO8 x1 x8 x4 hev9 hgn Hz Hsz
   go_wp2
   refine wp_region_held_drew (S := (fun w' => w'.cell? ⟨R.b, 8, none⟩ = some (.slice (some ⟨R.g, 0, none⟩) R.n R.c) /\ w'.cell? ⟨R.g, k * 6 + 4, none⟩ = some (.slice (some ⟨eg, 0, none⟩) ll ecp) /\ w'.cell? ⟨R.g, k * 6 + 3, none⟩ = some (.int .i64 (gn : Int)))) (by kernel_rfl) ⟨(dW0 z8), (dW0 z4), (dW0 z3)⟩ (fun hH => ?_)
   simp only [Act.put, lA, lC, lN, zA]
   refine tG 0 160 (.pointer (some ⟨R.b, 0, none⟩)) rfl hH ?_
   simp only [aP, sA, sZ, sC]
   refine tG 1 161 (.pointer (some ⟨R.b, 0, none⟩)) rfl hH ?_
   simp only [aP, sA, sZ, sC]
   refine tG 2 162 (.pointer (some ⟨R.b, 8, none⟩)) rfl hH ?_
   simp only [aP, sA, sZ, sC]
   refine tL 3 163 (.slice (some ⟨R.g, 0, none⟩) R.n R.c) rfl hH ?_
   simp only [aP, sA, sZ, sC]
   refine tG 4 164 (.int .i64 (k : Int)) rfl hH ?_
   simp only [aP, sA, sZ, sC]
   refine tG 5 165 (.pointer (some ⟨R.g, k * 6, none⟩)) rfl hH ?_
   simp only [aP, sA, sZ, sC]
   refine tG 6 166 (.pointer (some ⟨R.g, k * 6 + 4, none⟩)) rfl hH ?_
   simp only [aP, sA, sZ, sC]
   refine tL 7 167 (.slice (some ⟨eg, 0, none⟩) ll ecp) rfl hH ?_
   simp only [aP, sA, sZ, sC]
   refine tG 8 168 (.pointer (some ⟨R.b, 0, none⟩)) rfl hH ?_
   simp only [aP, sA, sZ, sC]
   refine tG 9 169 (.pointer (some ⟨R.b, 0, none⟩)) rfl hH ?_
   simp only [aP, sA, sZ, sC]
   refine tG 10 170 (.pointer (some ⟨R.b, 8, none⟩)) rfl hH ?_
   simp only [aP, sA, sZ, sC]
   refine tL 11 171 (.slice (some ⟨R.g, 0, none⟩) R.n R.c) rfl hH ?_
   simp only [aP, sA, sZ, sC]
   refine tG 12 172 (.int .i64 (k : Int)) rfl hH ?_
   simp only [aP, sA, sZ, sC]
   refine tG 13 173 (.pointer (some ⟨R.g, k * 6, none⟩)) rfl hH ?_
   simp only [aP, sA, sZ, sC]
   refine tG 14 174 (.pointer (some ⟨R.g, k * 6 + 3, none⟩)) rfl hH ?_
   simp only [aP, sA, sZ, sC]
   refine tL 15 175 (.int .i64 (gn : Int)) rfl hH ?_
   simp only [aP, sA, sZ, sC]
   refine tX 16 176 (.int .i64 ((gn + 1 : Nat) : Int)) rfl (Or.inl ⟨by rfl, fun w' hS => by (go_simp <;> (first | (rw [wrap_id (by omega) (by omega)]; omega) | (rw [wrap_id (by omega) (by omega)])))⟩) hH ?_
   simp only [aP, sA, sZ, sC]
   have hbD8 : Below X.heap.size X X.drew := dB _
   have eq0 := bA hbD8 z8
   have eq1 := bA hbD8 z4
   have eq2 := bA hbD8 z3
   generalize X.drew = D8 at *
   refine rY 17 rfl fun K hK => ?_
   go_simp
   refine (HEl.out D8 hbD8).mono ?_
   rintro e w8 ⟨rfl, hb8⟩
   refine hK.out _ _ ⟨(bA hb8 eq0), (bA hb8 eq1), (bA hb8 eq2)⟩ (fun hH => ?_)
   clear hK K
   refine tG 18 9 (.int .i64 ev9) rfl hH ?_
   simp only [aP, sA, sZ, sC]
   refine wpAnyH_done (by kernel_rfl) ?_ _
   clear hH
   have HN : Hid (TkS w w8 R k r B l (.slice (some ⟨eg, 0, none⟩) ll ecp) (m + 1) (o ++ [z]) (.slice (some ⟨gg, 0, none⟩) (m + 1) cap)) := HTn.out.still (bstep hbD8 hb8)
   clear hbD8 hb8 eq0 eq1 eq2 HTn HEl z8 z4 z3 hX y3 f3 y8
   go_wp2
   refine ⟨⟨m + 1, o ++ [z], by rw [HevN.out], HN⟩, ?_⟩
   simp only [slen]
   omega
  | none =>
   have hev : eaV l (gm + 1) = -1 := by unfold eaV; rw [hei]
   rw [hev]
   have Hei : Hid (eaI l (gm + 1) = none) := hei
   have HL2 : Hid (TkL w wr wr R k r B l (.slice (some ⟨eg, 0, none⟩) ll ecp) m o (.slice a8 m c8) 0 (.slice none 0 0)) := hS.out.two
   clear hS hei hev
   generalize wr = D2 at *
   go_wp2
   go_loopw [10, 11] (fun v10 v11 wx => ∃ i : Nat, i ≤ ll /\ v11 = .int .i64 (i : Int) /\ Hid (TkL w D2 wx R k r B l (.slice (some ⟨eg, 0, none⟩) ll ecp) m o (.slice a8 m c8) i v10)) (fun _ v11 _ => ll - (intOf v11).toNat)
   case atStart => exact ⟨0, by omega, rfl, HL2⟩
   case round =>
    clear HL2
    obtain ⟨i, hi, rfl, hS⟩ := hrel
    have x8 := hS.out.tk.c8
    have x4 := hS.out.tk.e4 hk
    have x3 : wr.cell? ⟨R.g, k * 6 + 3, none⟩ = some (.int .i64 (gm : Int)) := by have := hS.out.tk.e3 hk; rw [Hgm.out.2] at this; exact this
    obtain ⟨ra, rc, hv⟩ := row_shape' hS.out.rl
    obtain ⟨fn, hfn⟩ : ∃ n, (flt (r.gt + m) (l.take i)).length = n := ⟨_, rfl⟩
    rw [hfn] at hv
    rw [hv] at hS
    rw [hv]
    have i1 : (0 : Int) ≤ (i : Int) := Int.natCast_nonneg _
    have i2 : (k : Int) < (R.n : Int) := by omega
    have i3 : (0 : Int) ≤ (k : Int) := Int.natCast_nonneg _
    by_cases hlt : i < ll
    ·have m2 : (i : Int) < (ll : Int) := by omega
     obtain ⟨x, hx⟩ : ∃ x, l[i]? = some x := ⟨_, List.getElem?_eq_getElem (by rw [Hll.out.1]; exact hlt)⟩
     have hrdE := RdE.of hS.out.tk.re (by rw [Hll.out.1]; omega) Hs4l.out
     obtain ⟨g', c', hv', hcl⟩ := hrdE.at_ (by rw [Hll.out.1]; omega)
     simp only [Value.slice.injEq, Option.some.injEq, Addr.mk.injEq] at hv'
     obtain ⟨⟨hg', -, -⟩, -, -⟩ := hv'
     subst hg'
     obtain ⟨sq, hsq⟩ : ∃ s, x.1 = s := ⟨_, rfl⟩
     have x0 := (hcl i _ hx).1
     have x1 := (hcl i _ hx).2
     rw [hsq] at x0
     have hs4 : sq ≤ 4611686018427387904 := by rw [<- hsq]; exact Hs4l.out _ (List.mem_of_getElem? hx)
     by_cases hgt2 : gm < sq
     ·have HRe : Hid (∀ D, Below wr.heap.size wr D -> D.rangeAt eg (i * 2) [.int .i64 (sq : Int), .slice (some ⟨x.2.k, 0, none⟩) x.2.bs.length x.2.c]) := fun D hb j v hv => (show _ = _ from by
       match j, hv with
       | 0, hv => cases hv; exact bA hb x0
       | 1, hv => cases hv; exact bA hb x1)
      have HS : Hid (TkL w D2 wr R k r B l (.slice (some ⟨eg, 0, none⟩) ll ecp) m o (.slice a8 m c8) i (.slice ra fn rc)) := hS.out
      have Hx : Hid (l[i]? = some x /\ r.gt + m < x.1 /\ x.1 = sq) := (show _ /\ _ from ⟨hx, by rw [Hgm.out.2, hsq]; exact hgt2, hsq⟩)
      have Hfn : Hid ((flt (r.gt + m) (l.take i)).length = fn) := hfn
      have hfn4 : fn ≤ 1001 := by rw [<- hfn]; have := flt_le (r.gt + m) (l.take i); rw [List.length_take] at this; omega
      clear hS hv hfn hx hrdE hcl hsq x1
      go_wp2
      refine wp_region_held_drew (S := (fun w' => w'.cell? ⟨R.b, 8, none⟩ = some (.slice (some ⟨R.g, 0, none⟩) R.n R.c) /\ w'.cell? ⟨R.g, k * 6 + 4, none⟩ = some (.slice (some ⟨eg, 0, none⟩) ll ecp) /\ w'.cell? ⟨eg, i * 2, none⟩ = some (.int .i64 (sq : Int)) /\ w'.cell? ⟨R.g, k * 6 + 3, none⟩ = some (.int .i64 (gm : Int)))) (by kernel_rfl) ⟨(dW0 x8), (dW0 x4), (dW0 x0), (dW0 x3)⟩ (fun hH => ?_)
      simp only [Act.put, lA, lC, lN, zA]
      refine tG 0 191 (.pointer (some ⟨R.b, 0, none⟩)) rfl hH ?_
      simp only [aP, sA, sZ, sC]
      refine tG 1 192 (.pointer (some ⟨R.b, 0, none⟩)) rfl hH ?_
      simp only [aP, sA, sZ, sC]
      refine tG 2 193 (.pointer (some ⟨R.b, 8, none⟩)) rfl hH ?_
      simp only [aP, sA, sZ, sC]
      refine tL 3 194 (.slice (some ⟨R.g, 0, none⟩) R.n R.c) rfl hH ?_
      simp only [aP, sA, sZ, sC]
      refine tG 4 195 (.int .i64 (k : Int)) rfl hH ?_
      simp only [aP, sA, sZ, sC]
      refine tG 5 196 (.pointer (some ⟨R.g, k * 6, none⟩)) rfl hH ?_
      simp only [aP, sA, sZ, sC]
      refine tG 6 197 (.pointer (some ⟨R.g, k * 6 + 4, none⟩)) rfl hH ?_
      simp only [aP, sA, sZ, sC]
      refine tL 7 198 (.slice (some ⟨eg, 0, none⟩) ll ecp) rfl hH ?_
      simp only [aP, sA, sZ, sC]
      refine tG 8 199 (.int .i64 (i : Int)) rfl hH ?_
      simp only [aP, sA, sZ, sC]
      refine tG 9 200 (.pointer (some ⟨eg, i * 2, none⟩)) rfl hH ?_
      simp only [aP, sA, sZ, sC]
      refine tG 10 201 (.pointer (some ⟨eg, i * 2, none⟩)) rfl hH ?_
      simp only [aP, sA, sZ, sC]
      refine tL 11 202 (.int .i64 (sq : Int)) rfl hH ?_
      simp only [aP, sA, sZ, sC]
      refine tG 12 203 (.pointer (some ⟨R.b, 0, none⟩)) rfl hH ?_
      simp only [aP, sA, sZ, sC]
      refine tG 13 204 (.pointer (some ⟨R.b, 0, none⟩)) rfl hH ?_
      simp only [aP, sA, sZ, sC]
      refine tG 14 205 (.pointer (some ⟨R.b, 8, none⟩)) rfl hH ?_
      simp only [aP, sA, sZ, sC]
      refine tL 15 206 (.slice (some ⟨R.g, 0, none⟩) R.n R.c) rfl hH ?_
      simp only [aP, sA, sZ, sC]
      refine tG 16 207 (.int .i64 (k : Int)) rfl hH ?_
      simp only [aP, sA, sZ, sC]
      refine tG 17 208 (.pointer (some ⟨R.g, k * 6, none⟩)) rfl hH ?_
      simp only [aP, sA, sZ, sC]
      refine tG 18 209 (.pointer (some ⟨R.g, k * 6 + 3, none⟩)) rfl hH ?_
      simp only [aP, sA, sZ, sC]
      refine tL 19 210 (.int .i64 (gm : Int)) rfl hH ?_
      simp only [aP, sA, sZ, sC]
      refine tX 20 211 (.bool true) rfl (Or.inl ⟨by rfl, fun w' hS => by (go_simp <;> omega)⟩) hH ?_
      simp only [aP, sA, sZ, sC]
      refine wpAnyH_done (by kernel_rfl) ?_ _
      clear hH
      have hbE : Below wr.heap.size wr wr.drew := dB _
      have HSE : Hid (TkL w D2 wr.drew R k r B l (.slice (some ⟨eg, 0, none⟩) ll ecp) m o (.slice a8 m c8) i (.slice ra fn rc)) := HS.out.still hbE
      have HRE : Hid (wr.drew.rangeAt eg (i * 2) [.int .i64 (sq : Int), .slice (some ⟨x.2.k, 0, none⟩) x.2.bs.length x.2.c]) := HRe.out _ hbE
      have x8 := bA hbE x8
      have x4 := bA hbE x4
      generalize wr.drew = wd at *
      have HOl : Hid (wd.ownsRow D2.heap.size 122 2 (.slice ra fn rc) fn ((flt (r.gt + m) (l.take i)).flatMap eac)) := (show World.ownsRow _ _ _ _ _ _ _ from by have := HSE.out.rl; rw [Hfn.out] at this; exact this)
      have HDz : Hid (D2.heap.size ≤ wd.heap.size) := (show _ ≤ _ from HSE.out.sz)
      clear hbE HS HRe x0 x3
      go_wp2_with (first | (refine at_load 122 (.tmp 222) rfl ?_; refine load_mid 122 (.tmp 222) HRE.out _ Try.underlying122 rfl info_early rfl rfl rfl ?_) | (at_builtin; refine wl_pushEa (B := D2.heap.size) rfl _ _ rfl wd _ _ [.int .i64 (sq : Int), .slice (some ⟨x.2.k, 0, none⟩) x.2.bs.length x.2.c] rfl (ea_one _ _ _ _) rfl fn HOl.out rfl rfl (by omega) HDz.out ?_) | fail)
      intro gg cap w4 ho4 hk4 hg4 hl4
      have HN : Hid (TkL w D2 w4 R k r B l (.slice (some ⟨eg, 0, none⟩) ll ecp) m o (.slice a8 m c8) (i + 1) (.slice (some ⟨gg, 0, none⟩) (fn + 1) cap)) := (show TkL _ _ _ _ _ _ _ _ _ _ _ _ _ _ from by
       have := HSE.out.yes HR0.out Hx.out.1 Hx.out.2.1 (gg := gg) (cap := cap) (w4 := w4) (by rw [Hfn.out, show eac x = [.int .i64 (sq : Int), .slice (some ⟨x.2.k, 0, none⟩) x.2.bs.length x.2.c] from by unfold eac; rw [Hx.out.2.2]; rfl]; exact ho4) hk4
       rw [Hfn.out] at this
       exact this)
      clear ho4 hk4 hg4 hl4 HSE HRE HOl x8 x4
      go_wp2
      exact ⟨⟨i + 1, by omega, by go_num, HN⟩, by simp [intOf]; omega⟩
     ·have HN : Hid (TkL w D2 wr.drew R k r B l (.slice (some ⟨eg, 0, none⟩) ll ecp) m o (.slice a8 m c8) (i + 1) (.slice ra fn rc)) := (hS.out.no hx (by rw [Hgm.out.2, hsq]; exact hgt2)).still (dB _)
      clear hS hv hfn hx hrdE hcl hsq x1
      go_wp2
      refine wp_region_held_drew (S := (fun w' => w'.cell? ⟨R.b, 8, none⟩ = some (.slice (some ⟨R.g, 0, none⟩) R.n R.c) /\ w'.cell? ⟨R.g, k * 6 + 4, none⟩ = some (.slice (some ⟨eg, 0, none⟩) ll ecp) /\ w'.cell? ⟨eg, i * 2, none⟩ = some (.int .i64 (sq : Int)) /\ w'.cell? ⟨R.g, k * 6 + 3, none⟩ = some (.int .i64 (gm : Int)))) (by kernel_rfl) ⟨(dW0 x8), (dW0 x4), (dW0 x0), (dW0 x3)⟩ (fun hH => ?_)
      simp only [Act.put, lA, lC, lN, zA]
      refine tG 0 191 (.pointer (some ⟨R.b, 0, none⟩)) rfl hH ?_
      simp only [aP, sA, sZ, sC]
      refine tG 1 192 (.pointer (some ⟨R.b, 0, none⟩)) rfl hH ?_
      simp only [aP, sA, sZ, sC]
      refine tG 2 193 (.pointer (some ⟨R.b, 8, none⟩)) rfl hH ?_
      simp only [aP, sA, sZ, sC]
      refine tL 3 194 (.slice (some ⟨R.g, 0, none⟩) R.n R.c) rfl hH ?_
      simp only [aP, sA, sZ, sC]
      refine tG 4 195 (.int .i64 (k : Int)) rfl hH ?_
      simp only [aP, sA, sZ, sC]
      refine tG 5 196 (.pointer (some ⟨R.g, k * 6, none⟩)) rfl hH ?_
      simp only [aP, sA, sZ, sC]
      refine tG 6 197 (.pointer (some ⟨R.g, k * 6 + 4, none⟩)) rfl hH ?_
      simp only [aP, sA, sZ, sC]
      refine tL 7 198 (.slice (some ⟨eg, 0, none⟩) ll ecp) rfl hH ?_
      simp only [aP, sA, sZ, sC]
      refine tG 8 199 (.int .i64 (i : Int)) rfl hH ?_
      simp only [aP, sA, sZ, sC]
      refine tG 9 200 (.pointer (some ⟨eg, i * 2, none⟩)) rfl hH ?_
      simp only [aP, sA, sZ, sC]
      refine tG 10 201 (.pointer (some ⟨eg, i * 2, none⟩)) rfl hH ?_
      simp only [aP, sA, sZ, sC]
      refine tL 11 202 (.int .i64 (sq : Int)) rfl hH ?_
      simp only [aP, sA, sZ, sC]
      refine tG 12 203 (.pointer (some ⟨R.b, 0, none⟩)) rfl hH ?_
      simp only [aP, sA, sZ, sC]
      refine tG 13 204 (.pointer (some ⟨R.b, 0, none⟩)) rfl hH ?_
      simp only [aP, sA, sZ, sC]
      refine tG 14 205 (.pointer (some ⟨R.b, 8, none⟩)) rfl hH ?_
      simp only [aP, sA, sZ, sC]
      refine tL 15 206 (.slice (some ⟨R.g, 0, none⟩) R.n R.c) rfl hH ?_
      simp only [aP, sA, sZ, sC]
      refine tG 16 207 (.int .i64 (k : Int)) rfl hH ?_
      simp only [aP, sA, sZ, sC]
      refine tG 17 208 (.pointer (some ⟨R.g, k * 6, none⟩)) rfl hH ?_
      simp only [aP, sA, sZ, sC]
      refine tG 18 209 (.pointer (some ⟨R.g, k * 6 + 3, none⟩)) rfl hH ?_
      simp only [aP, sA, sZ, sC]
      refine tL 19 210 (.int .i64 (gm : Int)) rfl hH ?_
      simp only [aP, sA, sZ, sC]
      refine tX 20 211 (.bool false) rfl (Or.inl ⟨by rfl, fun w' hS => by (go_simp <;> omega)⟩) hH ?_
      simp only [aP, sA, sZ, sC]
      refine wpAnyH_done (by kernel_rfl) ?_ _
      clear hH
      generalize wr.drew = wd at *
      go_wp2
      exact ⟨⟨i + 1, by omega, by go_num, HN⟩, by simp [intOf]; omega⟩
    ·have hil : i = ll := by omega
     have m2 : ¬ (i : Int) < (ll : Int) := by omega
     have f4 := hS.out.tk.row.fz (k * 6 + 4)
     have HF : Hid (TkF w (wr.setCell ⟨R.g, k * 6 + 4, none⟩ (.slice ra fn rc)) R k r B T u bs (.returned (.tuple #[.slice a8 m c8, .int .i64 0]))) := (show TkF _ _ _ _ _ _ _ _ _ _ from by
      have h1 := hS.out
      rw [hil, <- Hll.out.2, <- Hev.out.2, <- Hl.out] at h1
      have h2 := Hei.out
      rw [<- Hl.out, <- Hgm.out.2] at h2
      rw [Hev.out.2, Hll.out.2] at h1
      have h3 : TkL w D2 wr R k r B (r.ea ++ [(u, y)]) (.slice (some ⟨eg, 0, none⟩) ll ecp) m o (.slice a8 m c8) (r.ea.length + 1) (.slice ra fn rc) := by rw [Hev.out.2, Hll.out.2]; exact h1
      exact h3.fin HR0.out hB hk HE.out (by omega) hu Hy.out h2)
     clear hS hv hfn hil
     go_wp2
     exact bodyPost_ret (v := .tuple #[.slice a8 m c8, .int .i64 0]) (by simp [results, Try.results40, go_sem]) rfl ⟨k, rfl, hk, HF.out⟩
end
end Go.Proofs.Ythanifbimndhaaa.Ln
