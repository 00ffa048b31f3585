import Derived.Test.YthanifbimndhaaaM8
namespace Go.Proofs.Ythanifbimndhaaa.Ln
set_option maxHeartbeats 40000000
open Go.RowKit Mb
set_option linter.unusedVariables false
set_option maxRecDepth 100000
set_option linter.unusedSimpArgs false
section
variable {w w' W : World} {B T : Nat} {R R' : Rx} {r r' : Rn}
theorem Bn.Ok.lower {y : Bn} {B' : Nat} (h : y.Ok w B') (hB : B ≤ B') : y.Ok w B := { h with lo := Nat.le_trans hB h.lo }
theorem rpush_fin {D w2 w4 : World} {k : Nat} (h : R.Ok D B T) (hk : k < R.n) (he : R.es k = r) (hb : Below D.heap.size D w2) {y : Bn} (hy : y.Ok w2 D.heap.size) (hB : B ≤ D.heap.size) {g cap : Nat} (ho : w4.ownsRow B 40 1 (.slice (some ⟨g, 0, none⟩) (r.ps.length + 1) cap) (r.ps.length + 1) (r.ps.map Bn.v ++ [y.v])) (hkp : Kept w2 w4 (fun j => r.pv.ownBlock = some j)) (hg : r.pv.ownBlock = some g ∨ w2.heap.size ≤ g) (hT : T + 1 ≤ 1000) :
  Rstep D (w4.setCell ⟨R.g, k * 6 + 1, none⟩ (.slice (some ⟨g, 0, none⟩) (r.ps.length + 1) cap)) R (R.put k { r with pv := .slice (some ⟨g, 0, none⟩) (r.ps.length + 1) cap, ps := r.ps ++ [y] }) B (T + 1) := by
 subst he
 have h2 := h.still hb
 have hr := h2.el k hk
 have hgp : ∀ j, (R.es k).pv.ownBlock = some j -> ¬ j = R.g := fun j hj e => by obtain ⟨C, hC⟩ := h2.ty_p hk hj; exact h2.row.ne hC (by decide) e.symm
 have k1 : Kept w4 (w4.setCell ⟨R.g, k * 6 + 1, none⟩ (.slice (some ⟨g, 0, none⟩) ((R.es k).ps.length + 1) cap)) (fun j => j = R.g) := kset _ _ _ _ rfl
 have hrow4 : Rk w4 R.g 107 (R.n * 6) (rrf R.es) := h2.row.keep hkp (fun e => hgp _ e rfl)
 have hgg : ¬ g = R.g := by
  rcases hg with hg | hg
  ·exact hgp g hg
  ·intro e; have := h2.row.lt; omega
 refine h.change (r' := { R.es k with pv := .slice (some ⟨g, 0, none⟩) ((R.es k).ps.length + 1) cap, ps := (R.es k).ps ++ [y] }) hk ?_ ((hrow4.set _ _).congr fun j _ => rrf_upd (r' := { R.es k with pv := .slice (some ⟨g, 0, none⟩) ((R.es k).ps.length + 1) cap, ps := (R.es k).ps ++ [y] }) R.es k 1 (.slice (some ⟨g, 0, none⟩) ((R.es k).ps.length + 1) cap) (by omega) rfl j) ?_ ?_ (fun j hj => ?_) (fun j hj => .inl hj) (fun y' hy' => ?_) (fun x hx => .inl ⟨x, hx, rfl⟩) (show (R.es k).an ≤ ((R.es k).ps ++ [y]).length from by rw [List.length_append]; have := hr.s1; omega) (by omega) hT (show ((R.es k).ps ++ [y]).length ≤ T + 1 from by rw [List.length_append]; have := hr.s2; simp only [List.length_cons, List.length_nil]; omega) (by have := hr.s3; show (R.es k).gt + (R.es k).ea.length ≤ T + 1; omega) hr.s4
 ·refine ((Kept.ofBelow hb _).step hkp (fun j hj => .inl (.inr (.inl hj)))).step k1 (fun j hj => .inl (.inl hj))
 ·show World.ownsRow _ B 40 1 _ ((R.es k).ps ++ [y]).length (((R.es k).ps ++ [y]).map Bn.v)
  rw [List.length_append, List.map_append]
  exact k1.owns ho fun j hj e => by cases hj; exact hgg e
 ·refine k1.owns (hkp.owns hr.re fun j hj e => ?_) fun j hj e => ?_
  ·obtain ⟨C, hC⟩ := h2.ty_p hk e; obtain ⟨C', hC'⟩ := h2.ty_e hk hj; exact blk_ne hC hC' (by decide) rfl
  ·obtain ⟨C', hC'⟩ := h2.ty_e hk hj; exact h2.row.ne hC' (by decide) e.symm
 ·cases hj
  rcases hg with hg | hg
  ·exact .inl hg
  ·exact .inr (Nat.le_trans hb.size hg)
 ·rcases List.mem_append.1 hy' with hy' | hy'
  ·exact .inl hy'
  ·simp at hy'
   subst hy'
   refine .inr ⟨?_, hy.lo⟩
   refine Bn.Ok.lower ?_ hB
   refine (hy.keep hkp fun e => ?_).keep k1 fun e => ?_
   ·obtain ⟨C, hC⟩ := h2.ty_p hk e; exact hy.ne hC (by decide) rfl
   ·obtain ⟨C, hC, _⟩ := h2.row; exact hy.ne hC (by decide) e
theorem rx_np {k : Nat} {v : Value} (h : R.Ok w B T) (hk : k < R.n) (he : R.es k = r) (hv : r.pv = v) : ¬ v.ownBlock = some R.b /\ ¬ v.ownBlock = some R.g := by
 subst he
 subst hv
 refine ⟨fun e => ?_, fun e => ?_⟩
 ·obtain ⟨C, hC⟩ := h.ty_p hk e; exact blk_ne hC h.blk (by decide) rfl
 ·obtain ⟨C, hC⟩ := h.ty_p hk e; exact h.row.ne hC (by decide) rfl
theorem rpush_no (h : R.Ok w B T) {q : Int} (hq : R.at q = none) {ao : Option Addr} {n c : Nat} : Calls Try.prog 37 #[.pointer (some ⟨R.b, 0, none⟩), .int .i64 q, .slice ao n c] w fun e w' => e = .returned (.int .i64 41) /\ w = w' := by
 have HI : Hid (Calls Try.prog 63 #[.pointer (some ⟨R.b, 0, none⟩), .int .i64 q] w fun e w' => e = .returned (.bool false) /\ w = w') := is_no h hq
 clear h hq
 go_enter Try.func37, Try.ntmps37
 go_wp2_with (first | (go_at_call 63; refine HI.out.mono ?_; rintro e w' ⟨rfl, rfl⟩) | fail)
 go_ret
 exact ⟨rfl, rfl⟩
theorem rpush_arg (h : R.Ok w B T) {q : Int} (hq : R.at q = some r) {ao : Option Addr} {n c : Nat} (hn : inR 1 300 (n : Int) = false) : Calls Try.prog 37 #[.pointer (some ⟨R.b, 0, none⟩), .int .i64 q, .slice ao n c] w fun e w' => e = .returned (.int .i64 1) /\ w = w' := by
 have HI : Hid (Calls Try.prog 63 #[.pointer (some ⟨R.b, 0, none⟩), .int .i64 q] w fun e w' => e = .returned (.bool true) /\ w = w') := is_yes h hq
 clear h hq
 by_cases h0 : n = 0
 ·have z0 : ((n : Int) == 0) = true := by rw [beq_iff_eq]; omega
  clear hn h0
  go_enter Try.func37, Try.ntmps37
  go_wp2_with (first | (go_at_call 63; refine HI.out.mono ?_; rintro e w' ⟨rfl, rfl⟩) | fail)
  go_ret
  exact ⟨rfl, rfl⟩
 ·have z0 : ((n : Int) == 0) = false := by rw [beq_eq_false_iff_ne]; omega
  have h1 : (n : Int) > 300 := by simp [inR] at hn; omega
  clear hn h0
  go_enter Try.func37, Try.ntmps37
  go_wp2_with (first | (go_at_call 63; refine HI.out.mono ?_; rintro e w' ⟨rfl, rfl⟩) | fail)
  go_ret
  exact ⟨rfl, rfl⟩
theorem rpush_full (h : R.Ok w B T) {q : Int} (hq : R.at q = some r) {ao : Option Addr} {n c : Nat} (hn : inR 1 300 (n : Int) = true) (hs : r.an + R.space ≤ r.ps.length) : Calls Try.prog 37 #[.pointer (some ⟨R.b, 0, none⟩), .int .i64 q, .slice ao n c] w fun e w' => e = .returned (.int .i64 42) /\ Below w.heap.size w w' := by
 have HI : Hid (Calls Try.prog 63 #[.pointer (some ⟨R.b, 0, none⟩), .int .i64 q] w fun e w' => e = .returned (.bool true) /\ w = w') := is_yes h hq
 have HW : Hid (∀ D, Below w.heap.size w D -> Calls Try.prog 48 #[.pointer (some ⟨R.b, 0, none⟩), .int .i64 q] D fun e w' => e = .returned (.int .i64 ((r.ps.length : Int) - (r.an : Int))) /\ Below D.heap.size D w') := fun D hb => rwait_yes (h.still hb) hq
 obtain ⟨k, rfl, hk, he, hpe⟩ := rat_es hq
 have c3 := (h.ce hk he).c3
 have z0 : ((n : Int) == 0) = false := by rw [beq_eq_false_iff_ne]; simp [inR] at hn; omega
 have z1 : ¬ (n : Int) > 300 := by simp [inR] at hn; omega
 generalize r.ps.length = pl at *
 generalize r.an = an at *
 clear h hq he hpe hn
 go_enter Try.func37, Try.ntmps37
 go_wp2_with (first | (go_at_call 63; refine HI.out.mono ?_; rintro e w' ⟨rfl, rfl⟩) | fail)
 refine wp_region_held_drew (S := (fun w' => w'.cell? ⟨R.b, 3, none⟩ = some (.int .i64 (R.space : Int)))) (by kernel_rfl) (dW0 c3) (fun hH => ?_)
 simp only [Act.put, lA, lC, lN, zA]
 refine wG 0 (.pointer (some ⟨R.b, 0, none⟩)) rfl hH ?_
 simp only [aP, gA, gZ, gC, sA, sZ, sC]
 refine wG 1 (.int .i64 (k : Int)) rfl hH ?_
 simp only [aP, gA, gZ, gC, sA, sZ, sC]
 refine wG 3 (.pointer (some ⟨R.b, 0, none⟩)) rfl hH ?_
 simp only [aP, gA, gZ, gC, sA, sZ, sC]
 refine wG 4 (.pointer (some ⟨R.b, 0, none⟩)) rfl hH ?_
 simp only [aP, gA, gZ, gC, sA, sZ, sC]
 refine wG 5 (.pointer (some ⟨R.b, 3, none⟩)) rfl hH ?_
 simp only [aP, gA, gZ, gC, sA, sZ, sC]
 refine wL 6 (.int .i64 (R.space : Int)) rfl hH ?_
 simp only [aP, gA, gZ, gC, sA, sZ, sC]
 have hbD : Below w.heap.size w w.drew := dB _
 have q0 := bA hbD c3
 generalize w.drew = D0 at *
 refine rY 2 rfl fun K hK => ?_
 go_simp
 refine (HW.out D0 hbD).mono ?_
 rintro e w2 ⟨rfl, hb2⟩
 refine hK.out _ _ (bA hb2 q0) (fun hH => ?_)
 clear hK K
 refine wX 7 (.bool true) rfl (Or.inl ⟨by rfl, fun w' hS => by (go_simp <;> omega)⟩) hH ?_
 simp only [aP, gA, gZ, gC, sA, sZ, sC]
 refine wpAnyH_done (by kernel_rfl) ?_ _
 clear hH
 have HZ : Hid (Below w.heap.size w w2) := (show Below _ _ _ from bstep hbD hb2)
 clear hbD hb2 q0 HW
 go_wp2
 go_ret
 exact ⟨rfl, HZ.out⟩
theorem rpush_ok (h : R.Ok w B T) (hB : B ≤ w.heap.size) (hT : T + 1 ≤ 1000) {q : Int} (hq : R.at q = some r) {ao : Option Addr} {n c : Nat} {bs : List Int} (hrd : Rd w ao n c bs) (hn : inR 1 300 (n : Int) = true) (hs : r.ps.length < r.an + R.space) : Calls Try.prog 37 #[.pointer (some ⟨R.b, 0, none⟩), .int .i64 q, .slice ao n c] w fun e w' => e = .returned (.int .i64 0) /\ ∃ k : Nat, q = (k : Int) /\ k < R.n /\ ∃ y' : Bn, y'.bs = bs /\ ∃ gv, Rstep w w' R (R.put k { r with pv := gv, ps := r.ps ++ [y'] }) B (T + 1) := by
 have HI : Hid (Calls Try.prog 63 #[.pointer (some ⟨R.b, 0, none⟩), .int .i64 q] w fun e w' => e = .returned (.bool true) /\ w = w') := is_yes h hq
 have HW : Hid (∀ D, Below w.heap.size w D -> Calls Try.prog 48 #[.pointer (some ⟨R.b, 0, none⟩), .int .i64 q] D fun e w' => e = .returned (.int .i64 ((r.ps.length : Int) - (r.an : Int))) /\ Below D.heap.size D w') := fun D hb => rwait_yes (h.still hb) hq
 obtain ⟨k, rfl, hk, he, hpe⟩ := rat_es hq
 have c3 := (h.ce hk he).c3
 have z0 : ((n : Int) == 0) = false := by rw [beq_eq_false_iff_ne]; simp [inR] at hn; omega
 have z1 : ¬ (n : Int) > 300 := by simp [inR] at hn; omega
 have hn1 : 0 < n /\ n ≤ 300 := by simp [inR] at hn; omega
 have hr := h.el k hk
 rw [he] at hr
 obtain ⟨pa, pc, hpv⟩ := hr.pvs
 have i1 : (0 : Int) ≤ (k : Int) := Int.natCast_nonneg _
 have i2 : (k : Int) < (R.n : Int) := by omega
 have s1 := hr.s1
 have s2 := hr.s2
 have s4 := h.w1
 obtain ⟨pl, hpl⟩ : ∃ l, r.ps.length = l := ⟨_, rfl⟩
 obtain ⟨an, han⟩ : ∃ l, r.an = l := ⟨_, rfl⟩
 rw [hpl] at hpv
 rw [hpl, han] at HW
 have HR0 : Hid (R.Ok w B T) := h
 have Hrd : Hid (Rd w ao n c bs) := hrd
 have hne2 : R.b ≠ R.g := h.b_g
 have HO0 : Hid (∀ D, Below w.heap.size w D -> D.ownsRow B 40 1 (.slice pa pl pc) pl (r.ps.map Bn.v)) := fun D hb => (show World.ownsRow _ _ _ _ _ _ _ from by have := ((h.still hb).el k hk).rp; rw [he, hpl, hpv] at this; exact this)
 have HNb0 : Hid (¬ (Value.slice pa pl pc).ownBlock = some R.b) := (rx_np h hk he hpv).1
 have HNg : Hid (¬ (Value.slice pa pl pc).ownBlock = some R.g) := (rx_np h hk he hpv).2
 have HE : Hid (R.es k = r /\ r.pv = .slice pa pl pc /\ r.ps.length = pl) := (show _ /\ _ from ⟨he, hpv, hpl⟩)
 rw [hpl] at s1 s2 hs
 rw [han] at s1 hs
 clear hrd hq he hpe hn hr hpv hpl han h
 go_enter Try.func37, Try.ntmps37
 go_wp2_with (first | (go_at_call 63; refine HI.out.mono ?_; rintro e w' ⟨rfl, rfl⟩) | fail)
 refine wp_region_held_drew (S := (fun w' => w'.cell? ⟨R.b, 3, none⟩ = some (.int .i64 (R.space : Int)))) (by kernel_rfl) (dW0 c3) (fun hH => ?_)
 simp only [Act.put, lA, lC, lN, zA]
 refine wG 0 (.pointer (some ⟨R.b, 0, none⟩)) rfl hH ?_
 simp only [aP, gA, gZ, gC, sA, sZ, sC]
 refine wG 1 (.int .i64 (k : Int)) rfl hH ?_
 simp only [aP, gA, gZ, gC, sA, sZ, sC]
 refine wG 3 (.pointer (some ⟨R.b, 0, none⟩)) rfl hH ?_
 simp only [aP, gA, gZ, gC, sA, sZ, sC]
 refine wG 4 (.pointer (some ⟨R.b, 0, none⟩)) rfl hH ?_
 simp only [aP, gA, gZ, gC, sA, sZ, sC]
 refine wG 5 (.pointer (some ⟨R.b, 3, none⟩)) rfl hH ?_
 simp only [aP, gA, gZ, gC, sA, sZ, sC]
 refine wL 6 (.int .i64 (R.space : Int)) rfl hH ?_
 simp only [aP, gA, gZ, gC, sA, sZ, sC]
 have hbD : Below w.heap.size w w.drew := dB _
 have q0 := bA hbD c3
 generalize w.drew = D0 at *
 refine rY 2 rfl fun K hK => ?_
 go_simp
 refine (HW.out D0 hbD).mono ?_
 rintro e w2 ⟨rfl, hb2⟩
 refine hK.out _ _ (bA hb2 q0) (fun hH => ?_)
 clear hK K
 refine wX 7 (.bool false) rfl (Or.inl ⟨by rfl, fun w' hS => by (go_simp <;> omega)⟩) hH ?_
 simp only [aP, gA, gZ, gC, sA, sZ, sC]
 refine wpAnyH_done (by kernel_rfl) ?_ _
 clear hH
 have hZ : Below w.heap.size w w2 := bstep hbD hb2
 have HZ : Hid (Below w.heap.size w w2) := hZ
 have hc2 := (HR0.out.still hZ).ce hk HE.out.1
 have d8 := hc2.c8
 have d1 := hc2.e1
 rw [HE.out.2.1] at d1
 have HCp : Hid (∀ D, Below w2.heap.size w2 D -> Calls Try.prog 65 #[.slice ao n c] D fun e w' => CpO D w' bs e) := fun D hb => (show Calls _ _ _ _ _ from copied_any (Hrd.out.still (bstep HZ.out hb)) hn1.1 hn1.2)
 have HOw : Hid (∀ D, Below w2.heap.size w2 D -> D.ownsRow B 40 1 (.slice pa pl pc) pl (r.ps.map Bn.v)) := fun D hb => HO0.out D (bstep HZ.out hb)
 have HB0 : Hid (B ≤ w2.heap.size) := (show _ ≤ _ from Nat.le_trans hB hZ.size)
 have HNb : Hid (¬ (Value.slice pa pl pc).ownBlock = some R.b) := HNb0.out
 have HZc : Hid (∀ D D', Below w2.heap.size w2 D -> Kept D D' (fun j => (Value.slice pa pl pc).ownBlock = some j) -> ∃ zv, D'.cell? ⟨R.g, k * 6 + 1, none⟩ = some zv) := fun D D' hb hkk => ⟨_, kC hkk HNg.out (bA hb d1)⟩
 have HZf : Hid (∀ D D', Below w2.heap.size w2 D -> Kept D D' (fun j => (Value.slice pa pl pc).ownBlock = some j) -> D'.frozen? ⟨R.g, k * 6 + 1, none⟩ = false) := fun D D' hb hkk => (show _ = _ from (((HR0.out.still (bstep HZ.out hb)).row.keep hkk HNg.out).fz _))
 have HFin : Hid (∀ D w3 w4 y gg cap, Below w2.heap.size w2 D -> Below D.heap.size D w3 -> y.Ok w3 D.heap.size -> w4.ownsRow B 40 1 (.slice (some ⟨gg, 0, none⟩) (pl + 1) cap) (pl + 1) (r.ps.map Bn.v ++ [y.v]) -> Kept w3 w4 (fun j => (Value.slice pa pl pc).ownBlock = some j) -> ((Value.slice pa pl pc).ownBlock = some gg ∨ w3.heap.size ≤ gg) -> Rstep w (w4.setCell ⟨R.g, k * 6 + 1, none⟩ (.slice (some ⟨gg, 0, none⟩) (pl + 1) cap)) R (R.put k { r with pv := .slice (some ⟨gg, 0, none⟩) (pl + 1) cap, ps := r.ps ++ [y] }) B (T + 1)) := fun D w3 w4 y gg cap hD h3 hy ho hkk hg => (show Rstep _ _ _ _ _ _ from by
  have hwD := bstep HZ.out hD
  have hp := HE.out.2.1
  rw [<- hp] at hkk hg
  have h9 := HE.out.2.2
  subst h9
  have := rpush_fin (HR0.out.still hwD) hk HE.out.1 h3 hy (Nat.le_trans hB hwD.size) ho hkk hg hT
  exact ⟨this.ok, (Kept.ofBelow hwD _).step this.kept (fun j hj => .inl hj), fun j hj => (this.own j hj).imp id (fun hh => Nat.le_trans hwD.size hh), this.b⟩)
 clear hZ hbD hb2 q0 HW hc2 c3 HO0 HNb0 HNg Hrd
 go_wp2
 refine wp_region_held_drew (S := (fun w' => w'.cell? ⟨R.b, 8, none⟩ = some (.slice (some ⟨R.g, 0, none⟩) R.n R.c))) (by kernel_rfl) (dW0 d8) (fun hH => ?_)
 simp only [Act.put, lA, lC, lN, zA]
 refine wG 0 (.pointer (some ⟨R.b, 0, none⟩)) rfl hH ?_
 simp only [aP, gA, gZ, gC, sA, sZ, sC]
 refine wG 1 (.pointer (some ⟨R.b, 0, none⟩)) rfl hH ?_
 simp only [aP, gA, gZ, gC, sA, sZ, sC]
 refine wG 2 (.pointer (some ⟨R.b, 8, none⟩)) rfl hH ?_
 simp only [aP, gA, gZ, gC, sA, sZ, sC]
 refine wL 3 (.slice (some ⟨R.g, 0, none⟩) R.n R.c) rfl hH ?_
 simp only [aP, gA, gZ, gC, sA, sZ, sC]
 refine wG 4 (.int .i64 (k : Int)) rfl hH ?_
 simp only [aP, gA, gZ, gC, sA, sZ, sC]
 refine wG 5 (.pointer (some ⟨R.b, 0, none⟩)) rfl hH ?_
 simp only [aP, gA, gZ, gC, sA, sZ, sC]
 refine wG 6 (.pointer (some ⟨R.b, 0, none⟩)) rfl hH ?_
 simp only [aP, gA, gZ, gC, sA, sZ, sC]
 refine wG 7 (.pointer (some ⟨R.b, 8, none⟩)) rfl hH ?_
 simp only [aP, gA, gZ, gC, sA, sZ, sC]
 refine wL 8 (.slice (some ⟨R.g, 0, none⟩) R.n R.c) rfl hH ?_
 simp only [aP, gA, gZ, gC, sA, sZ, sC]
 refine wG 9 (.int .i64 (k : Int)) rfl hH ?_
 simp only [aP, gA, gZ, gC, sA, sZ, sC]
 refine wG 10 (.pointer (some ⟨R.g, k * 6, none⟩)) rfl hH ?_
 simp only [aP, gA, gZ, gC, sA, sZ, sC]
 refine wG 11 (.pointer (some ⟨R.g, k * 6 + 1, none⟩)) rfl hH ?_
 simp only [aP, gA, gZ, gC, sA, sZ, sC]
 refine wG 13 (.slice ao n c) rfl hH ?_
 simp only [aP, gA, gZ, gC, sA, sZ, sC]
 have hbD1 : Below w2.heap.size w2 w2.drew := dB _
 have q0 := bA hbD1 d8
 have iq0 := bA hbD1 d1
 generalize w2.drew = D1 at *
 refine wpAnyH_ready (rs := [12, 14]) (by kernel_rfl) (by simp) ?_
 refine AllReadyH.cons rfl (fun K hK => ?_) (AllReadyH.cons rfl (fun K hK => ?_) AllReadyH.nil)
 ·have zim := iq0
  go_simp
  clear zim
  refine hK.out _ _ q0 (fun hH => ?_)
  clear hK K
  refine rY 14 rfl fun K hK => ?_
  go_simp
  refine (HCp.out D1 hbD1).mono ?_
  rintro e w3 hx3
  obtain ⟨⟨y, he3, hy3, hok3⟩, hb3⟩ := hx3
  rw [show y.v = Value.slice (some ⟨y.k, 0, none⟩) y.bs.length y.c from rfl] at he3
  subst he3
  have Hy3 : Hid (y.bs = bs) := hy3
  have Hok3 : Hid (y.Ok w3 D1.heap.size) := hok3
  clear hy3 hok3
  refine hK.out _ _ (bA hb3 q0) (fun hH => ?_)
  clear hK K
  refine rY 15 rfl fun K hK => ?_
  go_simp
  refine hK.out _ _ (bA (w' := w3.alloc (.cells #[.slice (some ⟨y.k, 0, none⟩) y.bs.length y.c] 40)) (balloc (Below.refl _ _)) (bA hb3 q0)) (fun hH => ?_)
  clear hK K
  obtain ⟨w3a, hw3a⟩ : ∃ x, w3.alloc (.cells #[.slice (some ⟨y.k, 0, none⟩) y.bs.length y.c] 40) = x := ⟨_, rfl⟩
  have hb3a : Below w3.heap.size w3 w3a := by rw [<- hw3a]; exact balloc (Below.refl _ _)
  rw [hw3a] at hH ⊢
  refine rY 16 rfl fun K hK => ?_
  refine step_push rfl _ _ rfl w3 B _ _ (.slice (some ⟨y.k, 0, none⟩) y.bs.length y.c) rfl pl (HOw.out w3 (bstep hbD1 hb3)) hw3a.symm rfl rfl (by omega) (Nat.le_trans (Nat.le_trans HB0.out hbD1.size) hb3.size) ?_
  intro gg cap w4 ho4 hk4 hg4 hl4
  have z8 := kC hk4 HNb.out (bA hb3 q0)
  refine hK.out _ _ z8 (fun hH => ?_)
  clear hK K
  refine wG 17 (.pointer (some ⟨R.g, k * 6, none⟩)) rfl hH ?_
  simp only [aP, gA, gZ, gC, sA, sZ, sC]
  refine wG 18 (.pointer (some ⟨R.g, k * 6 + 1, none⟩)) rfl hH ?_
  simp only [aP, gA, gZ, gC, sA, sZ, sC]
  refine rY 19 rfl fun K hK => ?_
  have hzc := HZc.out w3 w4 (bstep hbD1 hb3) hk4
  have hzf := HZf.out w3 w4 (bstep hbD1 hb3) hk4
  obtain ⟨zv, hzv⟩ := hzc
  go_simp
  refine hK.out _ _ (below_set1 hne2 z8) (fun hH => ?_)
  clear hK K
  refine wpAnyH_done (by kernel_rfl) ?_ _
  clear hH
  have HF : Hid (∃ y' : Bn, y'.bs = bs /\ ∃ gv, Rstep w (w4.setCell ⟨R.g, k * 6 + 1, none⟩ (.slice (some ⟨gg, 0, none⟩) (pl + 1) cap)) R (R.put k { r with pv := gv, ps := r.ps ++ [y'] }) B (T + 1)) := (show ∃ y' : Bn, _ from ⟨y, Hy3.out, _, HFin.out D1 w3 w4 y gg cap hbD1 hb3 Hok3.out ho4 hk4 hg4⟩)
  clear hbD1 hb3 Hok3 ho4 hk4 hg4 hl4 z8
  go_wp2
  go_ret
  exact ⟨rfl, k, rfl, hk, HF.out⟩
 ·go_simp
  refine (HCp.out D1 hbD1).mono ?_
  rintro e w3 hx3
  obtain ⟨⟨y, he3, hy3, hok3⟩, hb3⟩ := hx3
  rw [show y.v = Value.slice (some ⟨y.k, 0, none⟩) y.bs.length y.c from rfl] at he3
  subst he3
  have Hy3 : Hid (y.bs = bs) := hy3
  have Hok3 : Hid (y.Ok w3 D1.heap.size) := hok3
  clear hy3 hok3
  refine hK.out _ _ (bA hb3 q0) (fun hH => ?_)
  clear hK K
  refine wpAnyH_ready (rs := [12, 15]) (by kernel_rfl) (by simp) ?_
  refine AllReadyH.cons rfl (fun K hK => ?_) (AllReadyH.cons rfl (fun K hK => ?_) AllReadyH.nil)
  ·have zim := (bA hb3 iq0)
   go_simp
   clear zim
   refine hK.out _ _ (bA hb3 q0) (fun hH => ?_)
   clear hK K
   refine rY 15 rfl fun K hK => ?_
   go_simp
   refine hK.out _ _ (bA (w' := w3.alloc (.cells #[.slice (some ⟨y.k, 0, none⟩) y.bs.length y.c] 40)) (balloc (Below.refl _ _)) (bA hb3 q0)) (fun hH => ?_)
   clear hK K
   obtain ⟨w3a, hw3a⟩ : ∃ x, w3.alloc (.cells #[.slice (some ⟨y.k, 0, none⟩) y.bs.length y.c] 40) = x := ⟨_, rfl⟩
   have hb3a : Below w3.heap.size w3 w3a := by rw [<- hw3a]; exact balloc (Below.refl _ _)
   rw [hw3a] at hH ⊢
   refine rY 16 rfl fun K hK => ?_
   refine step_push rfl _ _ rfl w3 B _ _ (.slice (some ⟨y.k, 0, none⟩) y.bs.length y.c) rfl pl (HOw.out w3 (bstep hbD1 hb3)) hw3a.symm rfl rfl (by omega) (Nat.le_trans (Nat.le_trans HB0.out hbD1.size) hb3.size) ?_
   intro gg cap w4 ho4 hk4 hg4 hl4
   have z8 := kC hk4 HNb.out (bA hb3 q0)
   refine hK.out _ _ z8 (fun hH => ?_)
   clear hK K
   refine wG 17 (.pointer (some ⟨R.g, k * 6, none⟩)) rfl hH ?_
   simp only [aP, gA, gZ, gC, sA, sZ, sC]
   refine wG 18 (.pointer (some ⟨R.g, k * 6 + 1, none⟩)) rfl hH ?_
   simp only [aP, gA, gZ, gC, sA, sZ, sC]
   refine rY 19 rfl fun K hK => ?_
   have hzc := HZc.out w3 w4 (bstep hbD1 hb3) hk4
   have hzf := HZf.out w3 w4 (bstep hbD1 hb3) hk4
   obtain ⟨zv, hzv⟩ := hzc
   go_simp
   refine hK.out _ _ (below_set1 hne2 z8) (fun hH => ?_)
   clear hK K
   refine wpAnyH_done (by kernel_rfl) ?_ _
   clear hH
   have HF : Hid (∃ y' : Bn, y'.bs = bs /\ ∃ gv, Rstep w (w4.setCell ⟨R.g, k * 6 + 1, none⟩ (.slice (some ⟨gg, 0, none⟩) (pl + 1) cap)) R (R.put k { r with pv := gv, ps := r.ps ++ [y'] }) B (T + 1)) := (show ∃ y' : Bn, _ from ⟨y, Hy3.out, _, HFin.out D1 w3 w4 y gg cap hbD1 hb3 Hok3.out ho4 hk4 hg4⟩)
   clear hbD1 hb3 Hok3 ho4 hk4 hg4 hl4 z8
   go_wp2
   go_ret
   exact ⟨rfl, k, rfl, hk, HF.out⟩
  ·go_simp
   refine hK.out _ _ (bA (w' := w3.alloc (.cells #[.slice (some ⟨y.k, 0, none⟩) y.bs.length y.c] 40)) (balloc (Below.refl _ _)) (bA hb3 q0)) (fun hH => ?_)
   clear hK K
   obtain ⟨w3a, hw3a⟩ : ∃ x, w3.alloc (.cells #[.slice (some ⟨y.k, 0, none⟩) y.bs.length y.c] 40) = x := ⟨_, rfl⟩
   have hb3a : Below w3.heap.size w3 w3a := by rw [<- hw3a]; exact balloc (Below.refl _ _)
   rw [hw3a] at hH ⊢
   refine rY 12 rfl fun K hK => ?_
   have zim := (bA hb3a (bA hb3 iq0))
   go_simp
   clear zim
   refine hK.out _ _ (bA hb3a (bA hb3 q0)) (fun hH => ?_)
   clear hK K
   refine rY 16 rfl fun K hK => ?_
   refine step_push rfl _ _ rfl w3 B _ _ (.slice (some ⟨y.k, 0, none⟩) y.bs.length y.c) rfl pl (HOw.out w3 (bstep hbD1 hb3)) hw3a.symm rfl rfl (by omega) (Nat.le_trans (Nat.le_trans HB0.out hbD1.size) hb3.size) ?_
   intro gg cap w4 ho4 hk4 hg4 hl4
   have z8 := kC hk4 HNb.out (bA hb3 q0)
   refine hK.out _ _ z8 (fun hH => ?_)
   clear hK K
   refine wG 17 (.pointer (some ⟨R.g, k * 6, none⟩)) rfl hH ?_
   simp only [aP, gA, gZ, gC, sA, sZ, sC]
   refine wG 18 (.pointer (some ⟨R.g, k * 6 + 1, none⟩)) rfl hH ?_
   simp only [aP, gA, gZ, gC, sA, sZ, sC]
   refine rY 19 rfl fun K hK => ?_
   have hzc := HZc.out w3 w4 (bstep hbD1 hb3) hk4
   have hzf := HZf.out w3 w4 (bstep hbD1 hb3) hk4
   obtain ⟨zv, hzv⟩ := hzc
   go_simp
   refine hK.out _ _ (below_set1 hne2 z8) (fun hH => ?_)
   clear hK K
   refine wpAnyH_done (by kernel_rfl) ?_ _
   clear hH
   have HF : Hid (∃ y' : Bn, y'.bs = bs /\ ∃ gv, Rstep w (w4.setCell ⟨R.g, k * 6 + 1, none⟩ (.slice (some ⟨gg, 0, none⟩) (pl + 1) cap)) R (R.put k { r with pv := gv, ps := r.ps ++ [y'] }) B (T + 1)) := (show ∃ y' : Bn, _ from ⟨y, Hy3.out, _, HFin.out D1 w3 w4 y gg cap hbD1 hb3 Hok3.out ho4 hk4 hg4⟩)
   clear hbD1 hb3 Hok3 ho4 hk4 hg4 hl4 z8
   go_wp2
   go_ret
   exact ⟨rfl, k, rfl, hk, HF.out⟩
end
section
variable {w w' W : World} {B T : Nat} {R R' : Rx} {r r' : Rn} {M : Mx}
theorem rwithin_any (v a b : Int) : Calls Try.prog 85 #[.int .i64 v, .int .i64 a, .int .i64 b] w fun e w' => e = .returned (.bool (inR a b v)) /\ w = w' := by
 by_cases h1 : v ≥ a
 ·by_cases h2 : v ≤ b
  ·rw [inR_t h1 h2]
   go_enter Try.func85, Try.ntmps85
   go_wp2
   go_ret
   exact ⟨rfl, rfl⟩
  ·rw [inR_f (by omega)]
   go_enter Try.func85, Try.ntmps85
   go_wp2
   go_ret
   exact ⟨rfl, rfl⟩
 ·rw [inR_f (by omega)]
  go_enter Try.func85, Try.ntmps85
  go_wp2
  go_ret
  exact ⟨rfl, rfl⟩
theorem rwhole_any (t : Tg) : Calls Try.prog 78 #[.agg #[.int .i64 t.e, .int .i64 t.l, .int .i64 t.i, .int .i64 t.c]] w fun e w' => e = .returned (.bool t.whole) /\ Below w.heap.size w w' := by
 unfold Tg.whole
 generalize hW : w.alloc (.cells #[.int .i64 t.e, .int .i64 t.l, .int .i64 t.i, .int .i64 t.c] 39) = W
 have hbW := bW0 hW
 have hblk := hQ0 hW
 have a0 : W.cell? ⟨w.heap.size, 0, none⟩ = some (.int .i64 t.e) := bC hblk 0
 have a1 : W.cell? ⟨w.heap.size, 1, none⟩ = some (.int .i64 t.l) := bC hblk 1
 have a2 : W.cell? ⟨w.heap.size, 2, none⟩ = some (.int .i64 t.i) := bC hblk 2
 have a3 : W.cell? ⟨w.heap.size, 3, none⟩ = some (.int .i64 t.c) := bC hblk 3
 have HB : Hid (Below w.heap.size w W) := hbW
 clear hblk hbW
 cases e0 : inR 1 4611686018427387904 t.e with
 | false =>
  go_enter Try.func78, Try.ntmps78
  go_wp2_with (first | (go_at_call 85; refine (rwithin_any _ _ _).mono ?_; rintro e w' ⟨rfl, rfl⟩) | fail)
  go_ret
  exact ⟨rfl, HB.out⟩
 | true =>
  cases e1 : inR 0 15 t.l with
  | false =>
   go_enter Try.func78, Try.ntmps78
   go_wp2_with (first | (go_at_call 85; refine (rwithin_any _ _ _).mono ?_; rintro e w' ⟨rfl, rfl⟩) | fail)
   go_ret
   exact ⟨rfl, HB.out⟩
  | true =>
   cases e2 : inR 1 4611686018427387904 t.i with
   | false =>
    go_enter Try.func78, Try.ntmps78
    go_wp2_with (first | (go_at_call 85; refine (rwithin_any _ _ _).mono ?_; rintro e w' ⟨rfl, rfl⟩) | fail)
    go_ret
    exact ⟨rfl, HB.out⟩
   | true =>
    go_enter Try.func78, Try.ntmps78
    go_wp2_with (first | (go_at_call 85; refine (rwithin_any _ _ _).mono ?_; rintro e w' ⟨rfl, rfl⟩) | fail)
    go_ret
    exact ⟨by simp, HB.out⟩
theorem rtag_any (h : R.Ok w B T) : Calls Try.prog 55 #[.pointer (some ⟨R.b, 0, none⟩)] w fun e w' => e = .returned (.agg #[.int .i64 R.tag.e, .int .i64 R.tag.l, .int .i64 R.tag.i, .int .i64 R.tag.c]) /\ Below w.heap.size w w' := by
 generalize hW : w.alloc (.cells #[.int .i64 0, .int .i64 0, .int .i64 0, .int .i64 0] 39) = W
 have hblk := hQ0 hW
 have hbW := bW0 hW
 have HT : Hid (W.there w.heap.size 0 4) := blk_there hblk rfl
 have HRg : Hid (W.rangeAt R.b 4 R.tag.vs) := fun j v hv => (show _ = _ from by
  have hj : j < 4 := by
   by_cases hj : j < 4
   ·exact hj
   ·rw [List.getElem?_eq_none (by simp [Tg.vs]; omega)] at hv; cases hv
  have h4 : j = 0 ∨ j = 1 ∨ j = 2 ∨ j = 3 := by omega
  rcases h4 with rfl | rfl | rfl | rfl
  all_goals (rw [<- hv]; exact (h.still hbW).cc _ rfl))
 generalize hV : W.setCells w.heap.size 0 R.tag.vs = V
 have hVb : V.heap[w.heap.size]? = some (.cells R.tag.vs.toArray 39 (0, 0)) := by rw [<- hV]; exact sets_whole hblk rfl
 have HBV : Hid (Below w.heap.size w V) := (show Below _ _ _ from by rw [<- hV]; exact bsets (Nat.le_refl _) _ _ hbW)
 have v0 : V.cell? ⟨w.heap.size, 0, none⟩ = some (.int .i64 R.tag.e) := bC hVb 0
 have v1 : V.cell? ⟨w.heap.size, 1, none⟩ = some (.int .i64 R.tag.l) := bC hVb 1
 have v2 : V.cell? ⟨w.heap.size, 2, none⟩ = some (.int .i64 R.tag.i) := bC hVb 2
 have v3 : V.cell? ⟨w.heap.size, 3, none⟩ = some (.int .i64 R.tag.c) := bC hVb 3
 clear hblk hbW hVb h
 go_enter Try.func55, Try.ntmps55
 go_wp2_with (first | (refine at_load 39 (.tmp 5) rfl ?_; refine load_mid 39 (.tmp 5) HRg.out _ Try.underlying39 rfl info_id rfl rfl rfl ?_) | (refine at_store 39 _ _ rfl ?_; refine wl_storeL rfl 39 _ _ rfl (L := R.tag.vs) rfl rfl HT.out info_id (tg_one _) ?_; rw [hV]) | fail)
 exact bodyPost_ret (v := .agg #[.int .i64 R.tag.e, .int .i64 R.tag.l, .int .i64 R.tag.i, .int .i64 R.tag.c]) (by simp [results, Try.results55, go_sem, v0, v1, v2, v3]) rfl ⟨rfl, HBV.out⟩
theorem mtag_any (h : M.Ok w B) : Calls Try.prog 54 #[.pointer (some ⟨M.b, 0, none⟩)] w fun e w' => e = .returned (.agg #[.int .i64 M.tag.e, .int .i64 M.tag.l, .int .i64 M.tag.i, .int .i64 M.tag.c]) /\ Below w.heap.size w w' := by
 generalize hW : w.alloc (.cells #[.int .i64 0, .int .i64 0, .int .i64 0, .int .i64 0] 39) = W
 have hblk := hQ0 hW
 have hbW := bW0 hW
 have HT : Hid (W.there w.heap.size 0 4) := blk_there hblk rfl
 have HRg : Hid (W.rangeAt M.b 3 M.tag.vs) := fun j v hv => (show _ = _ from by
  have hj : j < 4 := by
   by_cases hj : j < 4
   ·exact hj
   ·rw [List.getElem?_eq_none (by simp [Tg.vs]; omega)] at hv; cases hv
  have h4 : j = 0 ∨ j = 1 ∨ j = 2 ∨ j = 3 := by omega
  rcases h4 with rfl | rfl | rfl | rfl
  all_goals (rw [<- hv]; exact (h.still hbW).c _ rfl))
 generalize hV : W.setCells w.heap.size 0 M.tag.vs = V
 have hVb : V.heap[w.heap.size]? = some (.cells M.tag.vs.toArray 39 (0, 0)) := by rw [<- hV]; exact sets_whole hblk rfl
 have HBV : Hid (Below w.heap.size w V) := (show Below _ _ _ from by rw [<- hV]; exact bsets (Nat.le_refl _) _ _ hbW)
 have v0 : V.cell? ⟨w.heap.size, 0, none⟩ = some (.int .i64 M.tag.e) := bC hVb 0
 have v1 : V.cell? ⟨w.heap.size, 1, none⟩ = some (.int .i64 M.tag.l) := bC hVb 1
 have v2 : V.cell? ⟨w.heap.size, 2, none⟩ = some (.int .i64 M.tag.i) := bC hVb 2
 have v3 : V.cell? ⟨w.heap.size, 3, none⟩ = some (.int .i64 M.tag.c) := bC hVb 3
 clear hblk hbW hVb h
 go_enter Try.func54, Try.ntmps54
 go_wp2_with (first | (refine at_load 39 (.tmp 5) rfl ?_; refine load_mid 39 (.tmp 5) HRg.out _ Try.underlying39 rfl info_id rfl rfl rfl ?_) | (refine at_store 39 _ _ rfl ?_; refine wl_storeL rfl 39 _ _ rfl (L := M.tag.vs) rfl rfl HT.out info_id (tg_one _) ?_; rw [hV]) | fail)
 exact bodyPost_ret (v := .agg #[.int .i64 M.tag.e, .int .i64 M.tag.l, .int .i64 M.tag.i, .int .i64 M.tag.c]) (by simp [results, Try.results54, go_sem, v0, v1, v2, v3]) rfl ⟨rfl, HBV.out⟩
theorem rowed_no (h : R.Ok w B T) {q : Int} (hq : R.at q = none) : Calls Try.prog 53 #[.pointer (some ⟨R.b, 0, none⟩), .int .i64 q] w fun e w' => e = .returned (.tuple #[.agg #[.int .i64 0, .int .i64 0, .int .i64 0, .int .i64 0, .int .i64 0], .bool false]) /\ Below w.heap.size w w' := by
 generalize hW : w.alloc (.cells #[.int .i64 0, .int .i64 0, .int .i64 0, .int .i64 0, .int .i64 0] 74) = W
 have hbW := bW0 hW
 have hblk := hQ0 hW
 have hRW := h.still hbW
 have HI : Hid (Calls Try.prog 63 #[.pointer (some ⟨R.b, 0, none⟩), .int .i64 q] W fun e w' => e = .returned (.bool false) /\ W = w') := is_no hRW hq
 have HT : Hid (W.there w.heap.size 0 5) := blk_there hblk rfl
 generalize hV : W.setCells w.heap.size 0 z5 = V
 have hVb : V.heap[w.heap.size]? = some (.cells z5.toArray 74 (0, 0)) := by rw [<- hV]; exact sets_whole hblk rfl
 have HBV : Hid (Below w.heap.size w V) := (show Below _ _ _ from by rw [<- hV]; exact bsets (Nat.le_refl _) _ _ hbW)
 have v0 : V.cell? ⟨w.heap.size, 0, none⟩ = some (.int .i64 0) := bC hVb 0
 have v1 : V.cell? ⟨w.heap.size, 1, none⟩ = some (.int .i64 0) := bC hVb 1
 have v2 : V.cell? ⟨w.heap.size, 2, none⟩ = some (.int .i64 0) := bC hVb 2
 have v3 : V.cell? ⟨w.heap.size, 3, none⟩ = some (.int .i64 0) := bC hVb 3
 have v4 : V.cell? ⟨w.heap.size, 4, none⟩ = some (.int .i64 0) := bC hVb 4
 clear h hq hblk hbW hVb hRW
 go_enter Try.func53, Try.ntmps53
 go_wp2_with (first | (go_at_call 63; refine HI.out.mono ?_; rintro e w' ⟨rfl, rfl⟩) | (refine at_store 74 _ _ rfl ?_; refine wl_storeL rfl 74 _ _ rfl (L := z5) rfl rfl HT.out info_ack (ones5 0 0 0 0 0) ?_; rw [hV]) | fail)
 exact bodyPost_ret (v := .tuple #[.agg #[.int .i64 0, .int .i64 0, .int .i64 0, .int .i64 0, .int .i64 0], .bool false]) (by simp [results, Try.results53, go_sem, v0, v1, v2, v3, v4]) rfl ⟨rfl, HBV.out⟩
theorem rowed_none (h : R.Ok w B T) {q : Int} (hq : R.at q = some r) (ho : r.ow = false) : Calls Try.prog 53 #[.pointer (some ⟨R.b, 0, none⟩), .int .i64 q] w fun e w' => e = .returned (.tuple #[.agg #[.int .i64 0, .int .i64 0, .int .i64 0, .int .i64 0, .int .i64 0], .bool false]) /\ Below w.heap.size w w' := by
 generalize hW : w.alloc (.cells #[.int .i64 0, .int .i64 0, .int .i64 0, .int .i64 0, .int .i64 0] 74) = W
 have hbW := bW0 hW
 have hblk := hQ0 hW
 have hRW := h.still hbW
 have HI : Hid (Calls Try.prog 63 #[.pointer (some ⟨R.b, 0, none⟩), .int .i64 q] W fun e w' => e = .returned (.bool true) /\ W = w') := is_yes hRW hq
 have HT : Hid (W.there w.heap.size 0 5) := blk_there hblk rfl
 generalize hV : W.setCells w.heap.size 0 z5 = V
 have hVb : V.heap[w.heap.size]? = some (.cells z5.toArray 74 (0, 0)) := by rw [<- hV]; exact sets_whole hblk rfl
 have HBV : Hid (Below w.heap.size w V) := (show Below _ _ _ from by rw [<- hV]; exact bsets (Nat.le_refl _) _ _ hbW)
 have v0 : V.cell? ⟨w.heap.size, 0, none⟩ = some (.int .i64 0) := bC hVb 0
 have v1 : V.cell? ⟨w.heap.size, 1, none⟩ = some (.int .i64 0) := bC hVb 1
 have v2 : V.cell? ⟨w.heap.size, 2, none⟩ = some (.int .i64 0) := bC hVb 2
 have v3 : V.cell? ⟨w.heap.size, 3, none⟩ = some (.int .i64 0) := bC hVb 3
 have v4 : V.cell? ⟨w.heap.size, 4, none⟩ = some (.int .i64 0) := bC hVb 4
 obtain ⟨k, rfl, hk, he, hpe⟩ := rat_es hq
 have hc := hRW.ce hk he
 have c8 := hc.c8
 have e5 := hc.e5
 rw [ho] at e5
 have i1 : (0 : Int) ≤ (k : Int) := Int.natCast_nonneg _
 have i2 : (k : Int) < (R.n : Int) := by omega
 clear h hq hblk hbW hVb hRW hc he hpe ho
 go_enter Try.func53, Try.ntmps53
 go_wp2_with (first | (go_at_call 63; refine HI.out.mono ?_; rintro e w' ⟨rfl, rfl⟩) | (refine at_store 74 _ _ rfl ?_; refine wl_storeL rfl 74 _ _ rfl (L := z5) rfl rfl HT.out info_ack (ones5 0 0 0 0 0) ?_; rw [hV]) | fail)
 exact bodyPost_ret (v := .tuple #[.agg #[.int .i64 0, .int .i64 0, .int .i64 0, .int .i64 0, .int .i64 0], .bool false]) (by simp [results, Try.results53, go_sem, v0, v1, v2, v3, v4]) rfl ⟨rfl, HBV.out⟩
theorem rowed_yes (h : R.Ok w B T) {q : Int} (hq : R.at q = some r) (ho : r.ow = true) : Calls Try.prog 53 #[.pointer (some ⟨R.b, 0, none⟩), .int .i64 q] w fun e w' => e = .returned (.tuple #[.agg #[.int .i64 R.tag.e, .int .i64 R.tag.l, .int .i64 R.tag.i, .int .i64 R.tag.c, .int .i64 (r.gt : Int)], .bool true]) /\ ∃ k : Nat, q = (k : Int) /\ k < R.n /\ Rstep w w' R (R.put k { r with ow := false }) B T := by
 generalize hW : w.alloc (.cells #[.int .i64 0, .int .i64 0, .int .i64 0, .int .i64 0, .int .i64 0] 74) = W
 have hbW := bW0 hW
 have hblk := hQ0 hW
 have hRW := h.still hbW
 have HI : Hid (Calls Try.prog 63 #[.pointer (some ⟨R.b, 0, none⟩), .int .i64 q] W fun e w' => e = .returned (.bool true) /\ W = w') := is_yes hRW hq
 obtain ⟨k, rfl, hk, he, hpe⟩ := rat_es hq
 have hc := hRW.ce hk he
 have c8 := hc.c8
 have e5 := hc.e5
 rw [ho] at e5
 have f5 := hRW.row.fz (k * 6 + 5)
 have i1 : (0 : Int) ≤ (k : Int) := Int.natCast_nonneg _
 have i2 : (k : Int) < (R.n : Int) := by omega
 have hr := hRW.el k hk
 rw [he] at hr
 have hS := hRW.set1 (i := 5) (v := .bool false) (r' := { r with ow := false }) hk he (by omega) rfl rfl rfl rfl rfl hr.s1 (Nat.le_refl _) h.t1 hr.s3
 generalize hU : W.setCell ⟨R.g, k * 6 + 5, none⟩ (.bool false) = U at hS
 have hc2 := hS.ok.ce (k := k) (r := { r with ow := false }) hk (upd_same _ _ _)
 have m4 : U.cell? ⟨R.b, 4, none⟩ = some (.int .i64 R.tag.e) := hc2.c4
 have m5 : U.cell? ⟨R.b, 5, none⟩ = some (.int .i64 R.tag.l) := hc2.c5
 have m6 : U.cell? ⟨R.b, 6, none⟩ = some (.int .i64 R.tag.i) := hc2.c6
 have m7 : U.cell? ⟨R.b, 7, none⟩ = some (.int .i64 R.tag.c) := hc2.c7
 have m8 : U.cell? ⟨R.b, 8, none⟩ = some (.slice (some ⟨R.g, 0, none⟩) R.n R.c) := hc2.c8
 have m9 : U.cell? ⟨R.g, k * 6 + 3, none⟩ = some (.int .i64 (r.gt : Int)) := hc2.e3
 have hgw : w.heap.size ≠ R.g := h.gw (Nat.le_refl _)
 have hUb : U.heap[w.heap.size]? = some (.cells #[.int .i64 0, .int .i64 0, .int .i64 0, .int .i64 0, .int .i64 0] 74 (0, 0)) := by rw [<- hU]; exact blk_set_ne hblk hgw
 have hbD : Below U.heap.size U U.drew := dB _
 have hDb := (hbD.block _ (lt_heap hUb)).trans hUb
 have HT : Hid (U.drew.there w.heap.size 0 5) := blk_there hDb rfl
 generalize hV : U.drew.setCells w.heap.size 0 [.int .i64 R.tag.e, .int .i64 R.tag.l, .int .i64 R.tag.i, .int .i64 R.tag.c, .int .i64 (r.gt : Int)] = V
 have hVb : V.heap[w.heap.size]? = some (.cells [.int .i64 R.tag.e, .int .i64 R.tag.l, .int .i64 R.tag.i, .int .i64 R.tag.c, .int .i64 (r.gt : Int)].toArray 74 (0, 0)) := by rw [<- hV]; exact sets_whole hDb rfl
 have kV : Kept U.drew V (fun j => j = w.heap.size) := by rw [<- hV]; exact ksets (P := fun j => j = w.heap.size) rfl _ _ _
 have hbw : R.b ≠ w.heap.size := fun e => by have := h.lt (.inl rfl); omega
 have HXV : Hid (V.cell? ⟨R.b, 4, none⟩ = some (.int .i64 R.tag.e) /\ V.cell? ⟨R.b, 5, none⟩ = some (.int .i64 R.tag.l) /\ V.cell? ⟨R.b, 6, none⟩ = some (.int .i64 R.tag.i) /\ V.cell? ⟨R.b, 7, none⟩ = some (.int .i64 R.tag.c) /\ V.cell? ⟨R.b, 8, none⟩ = some (.slice (some ⟨R.g, 0, none⟩) R.n R.c) /\ V.cell? ⟨R.g, k * 6 + 3, none⟩ = some (.int .i64 (r.gt : Int))) := (show _ /\ _ from ⟨kC kV hbw (bA hbD m4), kC kV hbw (bA hbD m5), kC kV hbw (bA hbD m6), kC kV hbw (bA hbD m7), kC kV hbw (bA hbD m8), kC kV (fun e => hgw e.symm) (bA hbD m9)⟩)
 have HF : Hid (Rstep w V R (R.put k { r with ow := false }) B T) := (show Rstep _ _ _ _ _ _ from by
  have s1 := (Rstep.below h hbW).trans (hS.trans (Rstep.below hS.ok hbD))
  refine ⟨s1.ok.keep kV (fun j hj e => ?_), s1.kept.step kV (fun j hj => .inr (by have e' : j = w.heap.size := hj; omega)), s1.own, s1.b⟩
  have e' : j = w.heap.size := e
  rcases s1.own j hj with h1 | h1
  ·have := h.lt h1; omega
  ·have h2 := hS.own j hj
   rcases h2 with h2 | h2
   ·have := h.lt h2; omega
   ·have := hbW.size
    have hWs : W.heap.size = w.heap.size + 1 := by rw [<- hW]; simp
    omega)
 have v0 : V.cell? ⟨w.heap.size, 0, none⟩ = some (.int .i64 R.tag.e) := bC hVb 0
 have v1 : V.cell? ⟨w.heap.size, 1, none⟩ = some (.int .i64 R.tag.l) := bC hVb 1
 have v2 : V.cell? ⟨w.heap.size, 2, none⟩ = some (.int .i64 R.tag.i) := bC hVb 2
 have v3 : V.cell? ⟨w.heap.size, 3, none⟩ = some (.int .i64 R.tag.c) := bC hVb 3
 have v4 : V.cell? ⟨w.heap.size, 4, none⟩ = some (.int .i64 (r.gt : Int)) := bC hVb 4
 clear h hq hblk hbW hRW hc he hpe ho hr hS hc2 hgw hUb hbD hDb hVb kV hbw
 go_enter Try.func53, Try.ntmps53
 go_wp2_with (first | (go_at_call 63; refine HI.out.mono ?_; rintro e w' ⟨rfl, rfl⟩) | fail)
 refine wp_region_held_drew (S := (fun w' => w'.cell? ⟨R.b, 4, none⟩ = some (.int .i64 R.tag.e) /\ w'.cell? ⟨R.b, 5, none⟩ = some (.int .i64 R.tag.l) /\ w'.cell? ⟨R.b, 6, none⟩ = some (.int .i64 R.tag.i) /\ w'.cell? ⟨R.b, 7, none⟩ = some (.int .i64 R.tag.c) /\ w'.cell? ⟨R.b, 8, none⟩ = some (.slice (some ⟨R.g, 0, none⟩) R.n R.c) /\ w'.cell? ⟨R.g, k * 6 + 3, none⟩ = some (.int .i64 (r.gt : Int)))) (by kernel_rfl) ⟨(dW0 m4), (dW0 m5), (dW0 m6), (dW0 m7), (dW0 m8), (dW0 m9)⟩ (fun hH => ?_)
 simp only [Act.put, lA, lC, lN, zA]
 refine wG 0 (.pointer (some ⟨R.b, 0, none⟩)) rfl hH ?_
 simp only [aP, gA, gZ, gC, sA, sZ, sC]
 refine wG 1 (.pointer (some ⟨R.b, 0, none⟩)) rfl hH ?_
 simp only [aP, gA, gZ, gC, sA, sZ, sC]
 refine wG 2 (.pointer (some ⟨R.b, 4, none⟩)) rfl hH ?_
 simp only [aP, gA, gZ, gC, sA, sZ, sC]
 refine wL 3 (.agg #[.int .i64 R.tag.e, .int .i64 R.tag.l, .int .i64 R.tag.i, .int .i64 R.tag.c]) rfl hH ?_
 simp only [aP, gA, gZ, gC, sA, sZ, sC]
 refine wG 4 (.pointer (some ⟨R.b, 0, none⟩)) rfl hH ?_
 simp only [aP, gA, gZ, gC, sA, sZ, sC]
 refine wG 5 (.pointer (some ⟨R.b, 0, none⟩)) rfl hH ?_
 simp only [aP, gA, gZ, gC, sA, sZ, sC]
 refine wG 6 (.pointer (some ⟨R.b, 8, none⟩)) rfl hH ?_
 simp only [aP, gA, gZ, gC, sA, sZ, sC]
 refine wL 7 (.slice (some ⟨R.g, 0, none⟩) R.n R.c) rfl hH ?_
 simp only [aP, gA, gZ, gC, sA, sZ, sC]
 refine wG 8 (.int .i64 (k : Int)) rfl hH ?_
 simp only [aP, gA, gZ, gC, sA, sZ, sC]
 refine wG 9 (.pointer (some ⟨R.g, k * 6, none⟩)) rfl hH ?_
 simp only [aP, gA, gZ, gC, sA, sZ, sC]
 refine wG 10 (.pointer (some ⟨R.g, k * 6 + 3, none⟩)) rfl hH ?_
 simp only [aP, gA, gZ, gC, sA, sZ, sC]
 refine wL 11 (.int .i64 (r.gt : Int)) rfl hH ?_
 simp only [aP, gA, gZ, gC, sA, sZ, sC]
 refine wG 12 (.agg #[.int .i64 R.tag.e, .int .i64 R.tag.l, .int .i64 R.tag.i, .int .i64 R.tag.c, .int .i64 (r.gt : Int)]) rfl hH ?_
 simp only [aP, gA, gZ, gC, sA, sZ, sC]
 refine rY 13 rfl fun K hK => ?_
 refine step_storeL rfl 74 (.tmp 4) (.tmp 41) rfl (L := [.int .i64 R.tag.e, .int .i64 R.tag.l, .int .i64 R.tag.i, .int .i64 R.tag.c, .int .i64 (r.gt : Int)]) rfl rfl HT.out info_ack (ones5 _ _ _ _ _) ?_
 rw [hV]
 refine hK.out _ _ ⟨HXV.out.1, HXV.out.2.1, HXV.out.2.2.1, HXV.out.2.2.2.1, HXV.out.2.2.2.2.1, HXV.out.2.2.2.2.2⟩ (fun hH => ?_)
 clear hK K
 refine wG 14 (.bool true) rfl hH ?_
 simp only [aP, gA, gZ, gC, sA, sZ, sC]
 refine wpAnyH_done (by kernel_rfl) ?_ _
 clear hH
 go_wp2
 exact bodyPost_ret (v := .tuple #[.agg #[.int .i64 R.tag.e, .int .i64 R.tag.l, .int .i64 R.tag.i, .int .i64 R.tag.c, .int .i64 (r.gt : Int)], .bool true]) (by simp [results, Try.results53, go_sem, v0, v1, v2, v3, v4]) rfl ⟨rfl, k, rfl, hk, HF.out⟩
end
def eaI : List (Nat × Bn) -> Nat -> Option Nat
 | [], _ => none
 | x :: l, s => if x.1 = s then some 0 else (eaI l s).map (· + 1)
def eaV (l : List (Nat × Bn)) (s : Nat) : Int := match eaI l s with
 | some i => (i : Int)
 | none => -1
section
variable {w w' W : World} {B T : Nat} {R R' : Rx} {r r' : Rn} {l : List (Nat × Bn)}
theorem eac_at : ∀ {l : List (Nat × Bn)} {j : Nat} {x : Nat × Bn}, l[j]? = some x -> (l.flatMap eac)[j * 2]? = some (.int .i64 (x.1 : Int)) /\ (l.flatMap eac)[j * 2 + 1]? = some x.2.v
 | [], j, x, h => by simp at h
 | y :: l, 0, x, h => by
   simp at h
   subst h
   simp [eac]
 | y :: l, j + 1, x, h => by
   have := eac_at (l := l) (j := j) (x := x) (by simpa using h)
   rw [List.flatMap_cons, show (j + 1) * 2 = 2 + j * 2 by omega, show 2 + j * 2 + 1 = 2 + (j * 2 + 1) by omega]
   have e : (eac y).length = 2 := rfl
   rw [List.getElem?_append_right (by omega), List.getElem?_append_right (by omega), e, Nat.add_sub_cancel_left, Nat.add_sub_cancel_left]
   exact this
theorem eaI_first : ∀ {l : List (Nat × Bn)} {s k : Nat} {x : Nat × Bn}, (∀ (j : Nat) (y : Nat × Bn), j < k -> l[j]? = some y -> y.1 ≠ s) -> l[k]? = some x -> x.1 = s -> eaI l s = some k
 | [], s, k, x, _, h, _ => by simp at h
 | y :: l, s, 0, x, _, h, e => by
   simp at h
   subst h
   simp [eaI, e]
 | y :: l, s, k + 1, x, hn, h, e => by
   have h0 : ¬ y.1 = s := hn 0 y (by omega) rfl
   have := eaI_first (l := l) (s := s) (k := k) (x := x) (fun j z hj hz => hn (j + 1) z (by omega) (by simpa using hz)) (by simpa using h) e
   simp [eaI, h0, this]
theorem eaI_none : ∀ {l : List (Nat × Bn)} {s : Nat}, (∀ (j : Nat) (y : Nat × Bn), l[j]? = some y -> y.1 ≠ s) -> eaI l s = none
 | [], s, _ => rfl
 | y :: l, s, hn => by
   have h0 : ¬ y.1 = s := hn 0 y rfl
   have := eaI_none (l := l) (s := s) (fun j z hz => hn (j + 1) z (by simpa using hz))
   simp [eaI, h0, this]
theorem eaI_some : ∀ {l : List (Nat × Bn)} {s k : Nat}, eaI l s = some k -> ∃ y, l[k]? = some (s, y)
 | [], s, k, h => by simp [eaI] at h
 | y :: l, s, k, h => by
   by_cases h0 : y.1 = s
   ·simp [eaI, h0] at h
    subst h
    exact ⟨y.2, by simp [<- h0]⟩
   ·simp [eaI, h0] at h
    obtain ⟨k', h1, rfl⟩ := h
    obtain ⟨z, hz⟩ := eaI_some h1
    exact ⟨z, by simpa using hz⟩
structure RdE (w : World) (v : Value) (l : List (Nat × Bn)) : Prop where
 sh : ∃ a c, v = .slice a l.length c
 at_ : 0 < l.length -> ∃ g c, v = .slice (some ⟨g, 0, none⟩) l.length c /\ ∀ j x, l[j]? = some x -> w.cell? ⟨g, j * 2, none⟩ = some (.int .i64 (x.1 : Int)) /\ w.cell? ⟨g, j * 2 + 1, none⟩ = some x.2.v
 le : l.length ≤ 1000000
 s4 : ∀ x ∈ l, x.1 ≤ 4611686018427387904
theorem RdE.of {v : Value} (h : w.ownsRow B 122 2 v l.length (l.flatMap eac)) (hl : l.length ≤ 1000000) (h4 : ∀ x ∈ l, x.1 ≤ 4611686018427387904) : RdE w v l := by
 refine ⟨?_, fun hp => ?_, hl, h4⟩
 ·rcases h.2 with ⟨h1, h2⟩ | ⟨g, cap, cur, hv, _⟩
  ·exact ⟨none, 0, by rw [h1, h2]⟩
  ·exact ⟨_, _, hv⟩
 ·rcases h.2 with ⟨h1, h2⟩ | ⟨g, cap, cur, hv, _⟩
  ·omega
  ·refine ⟨g, cap, hv, fun j x hx => ?_⟩
   subst hv
   have hj : j < l.length := (List.getElem?_eq_some_iff.1 hx).1
   have he := eac_at hx
   exact ⟨by rw [World.ownsRow.cellAt h (j * 2) (by omega)]; exact he.1, by rw [World.ownsRow.cellAt h (j * 2 + 1) (by omega)]; exact he.2⟩
theorem RdE.still {v : Value} (h : RdE w v l) (hb : Below w.heap.size w w') : RdE w' v l :=
 ⟨h.sh, fun hp => by
  obtain ⟨g, c, hv, hc⟩ := h.at_ hp
  exact ⟨g, c, hv, fun j x hx => ⟨bA hb (hc j x hx).1, bA hb (hc j x hx).2⟩⟩, h.le, h.s4⟩
theorem early_any {v : Value} (h : RdE w v l) {s : Nat} (hs : s ≤ 4611686018427387904) : Calls Try.prog 79 #[v, .int .i64 (s : Int)] w fun e w' => e = .returned (.int .i64 (eaV l s)) /\ Below w.heap.size w w' := by
 obtain ⟨a, c, rfl⟩ := h.sh
 obtain ⟨n, hn⟩ : ∃ n, l.length = n := ⟨_, rfl⟩
 have Hh : Hid (RdE w (.slice a l.length c) l) := h
 have hle : n ≤ 1000000 := by rw [<- hn]; exact h.le
 have HN : Hid (l.length = n) := hn
 rw [hn]
 clear h hn
 go_enter Try.func79, Try.ntmps79
 go_wp2
 go_loopw [5] (fun i wr => ∃ k : Nat, k ≤ n /\ i = .int .i64 k /\ Hid (∀ j y, j < k -> l[j]? = some y -> y.1 ≠ s) /\ Hid (Below w.heap.size w wr)) (fun i _ => n - (intOf i).toNat)
 case atStart => exact ⟨0, Nat.zero_le _, rfl, (show ∀ j y, _ from fun j y hj => by omega), Below.refl _ _⟩
 case round =>
  obtain ⟨k, hk, rfl, hall, hb⟩ := hrel
  by_cases hlt : k < n
  ·obtain ⟨x, hx⟩ : ∃ x, l[k]? = some x := ⟨_, List.getElem?_eq_getElem (by rw [HN.out]; exact hlt)⟩
   obtain ⟨g, c', hv, hc⟩ := (Hh.out.still hb.out).at_ (by rw [HN.out]; omega)
   simp only [Value.slice.injEq] at hv
   have e0 := (hc k x hx).1
   have hx4 : x.1 ≤ 4611686018427387904 := Hh.out.s4 x (List.mem_of_getElem? hx)
   obtain ⟨hg, _, _⟩ := hv
   rw [hg]
   have i1 : (0 : Int) ≤ (k : Int) := Int.natCast_nonneg _
   have i2 : (k : Int) < (n : Int) := by omega
   by_cases hxs : x.1 = s
   ·have HZ : Hid (eaV l s = (k : Int)) := (show _ = _ from by unfold eaV; rw [eaI_first hall.out hx hxs])
    rw [hxs] at e0
    clear hc hg hx hall hxs hx4
    go_wp2
    go_ret
    exact ⟨by rw [HZ.out]; rfl, hb.out⟩
   ·have hne : ((x.1 : Int) == (s : Int)) = false := by rw [beq_eq_false_iff_ne]; omega
    have HF : Hid (∀ j y, j < k + 1 -> l[j]? = some y -> y.1 ≠ s) := (show ∀ j y, _ from fun j y hj hy => by
     by_cases e : j = k
     ·subst e; rw [hx] at hy; cases hy; exact hxs
     ·exact hall.out j y (by omega) hy)
    generalize x.1 = xs at *
    clear hc hg hx hall hxs
    go_wp2
    exact ⟨⟨k + 1, by omega, by go_num, HF, hb⟩, by simp [intOf]; omega⟩
  ·have hkn : k = n := by omega
   have HZ : Hid (eaV l s = -1) := (show _ = _ from by
    unfold eaV
    rw [eaI_none (fun j y hy => hall.out j y (by have := (List.getElem?_eq_some_iff.1 hy).1; rw [HN.out] at this; omega) hy)])
   have i2 : ¬ (k : Int) < (n : Int) := by omega
   clear hall hkn
   go_wp2
   go_ret
   exact ⟨by rw [HZ.out]; rfl, hb.out⟩
end
end Go.Proofs.Ythanifbimndhaaa.Ln
