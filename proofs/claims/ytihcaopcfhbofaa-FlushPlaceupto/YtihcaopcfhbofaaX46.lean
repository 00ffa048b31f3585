import Derived.Test.YtihcaopcfhbofaaX43
import Derived.Laws.BytesArg
import Derived.Laws.BitsAllLaws
namespace Go.Proofs.Ytihcaopcfhbofaa.Fm
open Go.RowKit Go.Maps Mb
set_option linter.unusedVariables false
set_option maxRecDepth 100000
set_option linter.unusedSimpArgs false
section
variable {w w' W : World} {B : Nat}
theorem conv_rdB {ao : Option Addr} {c : Nat} {bs : List Int} (h : RdB w ao bs) : (convert 35 9 (.slice ao bs.length c)).run Try.prog w = .ok (.string (strOfNums bs)) w := by
  rcases h with h | ⟨b, off, rfl, hc⟩
  · obtain rfl : bs = [] := List.eq_nil_of_length_eq_zero h
    cases ao with
    | none => exact run_convert_bytes_nil w 35 5 Try.underlying35 Try.underlying5 0 c 9 Try.underlying9
    | some a =>
      rw [show ([] : List Int).length = 0 from rfl, run_convert_bytes_string w 35 9 5 _ 0 c Try.underlying35 Try.underlying5 Try.underlying9, run_bytesToString w a 0 c [] (by simpa using run_loadCells_list (P := Try.prog) w a [] (fun j v hj => by simp at hj))]
      rfl
  · exact run_convert_bytes_arg w 35 5 Try.underlying35 Try.underlying5 b off bs.length c bs rfl (fun i hi => hc i (by omega)) 9 Try.underlying9
set_option maxHeartbeats 2000000 in
theorem sameMsg_any {p q r : Int} {a1 a2 : Option Addr} {c1 c2 : Nat} {bs : List Int} (h1 : RdB w a1 bs) (h2 : RdB w a2 bs) : Calls Try.prog 42 #[.agg #[.int .i64 p, .int .i64 q, .int .i64 r, .slice a1 bs.length c1], .agg #[.int .i64 p, .int .i64 q, .int .i64 r, .slice a2 bs.length c2]] w fun e w' => e = .returned (.bool true) ∧ Below w.heap.size w w' := by
  generalize hW2 : (w.alloc (.cells #[.int .i64 p, .int .i64 q, .int .i64 r, .slice a1 bs.length c1] 78)).alloc (.cells #[.int .i64 p, .int .i64 q, .int .i64 r, .slice a2 bs.length c2] 78) = W2
  have e1 : (w.alloc (.cells #[.int .i64 p, .int .i64 q, .int .i64 r, .slice a1 bs.length c1] 78)).heap.size = w.heap.size + 1 := World.size_alloc _ _
  have k1 := heap_alloc_new w (.cells #[.int .i64 p, .int .i64 q, .int .i64 r, .slice a1 bs.length c1] 78)
  have k2 : W2.heap[w.heap.size]? = some (.cells #[.int .i64 p, .int .i64 q, .int .i64 r, .slice a1 bs.length c1] 78 (0, 0)) := by rw [← hW2]; exact blk_alloc k1
  have k3 : W2.heap[w.heap.size + 1]? = some (.cells #[.int .i64 p, .int .i64 q, .int .i64 r, .slice a2 bs.length c2] 78 (0, 0)) := by rw [← hW2, ← e1]; exact heap_alloc_new _ _
  have hb : Below w.heap.size w W2 := by rw [← hW2]; exact balloc (balloc (Below.refl _ _))
  have HB : Hid (Below w.heap.size w W2) := hb
  have g1 := conv_rdB (c := c1) (Row.still h1 hb)
  have g2 := conv_rdB (c := c2) (Row.still h2 hb)
  have p0 : W2.cell? ⟨w.heap.size, 0, none⟩ = some (.int .i64 p) := blk_cell k2 0
  have p1 : W2.cell? ⟨w.heap.size, 1, none⟩ = some (.int .i64 q) := blk_cell k2 1
  have p2 : W2.cell? ⟨w.heap.size, 2, none⟩ = some (.int .i64 r) := blk_cell k2 2
  have p3 : W2.cell? ⟨w.heap.size, 3, none⟩ = some (.slice a1 bs.length c1) := blk_cell k2 3
  have q0 : W2.cell? ⟨w.heap.size + 1, 0, none⟩ = some (.int .i64 p) := blk_cell k3 0
  have q1 : W2.cell? ⟨w.heap.size + 1, 1, none⟩ = some (.int .i64 q) := blk_cell k3 1
  have q2 : W2.cell? ⟨w.heap.size + 1, 2, none⟩ = some (.int .i64 r) := blk_cell k3 2
  have q3 : W2.cell? ⟨w.heap.size + 1, 3, none⟩ = some (.slice a2 bs.length c2) := blk_cell k3 3
  generalize strOfNums bs = S at g1 g2
  clear h1 h2 k1 k2 k3 hb e1
  go_enter Try.func42, Try.ntmps42
  go_wp2
  go_ret
  exact ⟨by simp, HB.out⟩
set_option maxHeartbeats 4000000 in
theorem sameMsgs_any {ao bo : Option Addr} {ca cb : Nat} {xs ys : List Dx} (hx : RdDs w ao xs) (hy : RdDs w bo ys) (al : Al xs ys) (hn : ys.length ≤ 1000000000000000000) : Calls Try.prog 18 #[.slice ao xs.length ca, .slice bo ys.length cb] w fun e w' => e = .returned (.bool true) ∧ Below w.heap.size w w' := by
  have HX : Hid (RdDs w ao xs) := hx
  have HY : Hid (RdDs w bo ys) := hy
  have HA : Hid (Al xs ys) := al
  rw [al.len]
  have HLx : Hid (xs.length = ys.length) := al.len
  generalize hL : ys.length = L at *
  have HLe : Hid (ys.length = L) := hL
  clear hx hy al hL
  go_enter Try.func18, Try.ntmps18
  go_wp2
  go_loopw [5] (fun i wr => ∃ c : Nat, c ≤ L ∧ i = .int .i64 c ∧ Below w.heap.size w wr) (fun i _ => L - (intOf i).toNat)
  case atStart => exact ⟨0, Nat.zero_le _, rfl, Below.refl _ _⟩
  case round =>
    obtain ⟨c, hc, rfl, hb⟩ := hrel
    have HB : Hid (Below w.heap.size w wr) := hb
    by_cases hlt : c < L
    · obtain ⟨b, off, rfl, hcx⟩ := (HX.out.still hb).at (i := c) (by rw [HLx.out]; exact hlt)
      obtain ⟨b2, off2, rfl, hcy⟩ := (HY.out.still hb).at (i := c) (by rw [HLe.out]; exact hlt)
      have hal := HA.out.el c (by rw [HLe.out]; exact hlt)
      have hr1 := ((HX.out.still hb).el c (by rw [HLx.out]; exact hlt)).b
      have hr2 := ((HY.out.still hb).el c (by rw [HLe.out]; exact hlt)).b
      generalize xs.getD c dx0 = x at *
      generalize ys.getD c dx0 = y at *
      have HM : Hid (Calls Try.prog 42 #[.agg x.cs.toArray, .agg y.cs.toArray] wr.drew fun e w' => e = .returned (.bool true) ∧ Below wr.drew.heap.size wr.drew w') := (show Calls Try.prog 42 #[.agg x.cs.toArray, .agg y.cs.toArray] wr.drew fun e w' => e = .returned (.bool true) ∧ Below wr.drew.heap.size wr.drew w' from by
        obtain ⟨e1, e2, e3⟩ := hal
        obtain ⟨xs', xt, xa, xc, xb⟩ := x
        obtain ⟨ys', yt, ya, yc, yb⟩ := y
        dsimp only at e1 e2 e3 hr1 hr2
        subst e1 e2 e3
        exact sameMsg_any (Row.still hr1 (drew_bel _)) (Row.still hr2 (drew_bel _)))
      have HCx : Hid (wr.rangeAt b (off + c * 4) x.cs) := hcx
      have HCy : Hid (wr.rangeAt b2 (off2 + c * 4) y.cs) := hcy
      have Hx4 : Hid (x.cs.length = 4) := rfl
      have Hy4 : Hid (y.cs.length = 4) := rfl
      clear hal hr1 hr2 hcx hcy hb
      have i1 : (0 : Int) ≤ (c : Int) := Int.natCast_nonneg _
      have i2 : (c : Int) < (L : Int) := by omega
      go_wp2
      refine wp_region_held_drew (S := (fun w' => w'.rangeAt b (off + c * 4) x.cs ∧ w'.rangeAt b2 (off2 + c * 4) y.cs)) (by kernel_rfl) ⟨HCx.out, HCy.out⟩ (fun hHeld => ?_)
      simp only [Act.put, List.size_toArray, List.length_cons, List.length_nil, Nat.zero_add]
      refine wpAnyH_take (i := 0) (v := .slice (some ⟨b, off, none⟩) L ca) rfl (by kernel_rfl) (by kernel_rfl) (by kernel_rfl) (fun _ _ _ h => h) (Or.inl ⟨by rfl, fun w' hS => by go_simp⟩) hHeld ?_
      simp only [Act.put, gA9, gZ9, gC9, sA9, sZ9, sC9]
      refine wpAnyH_take (i := 1) (v := .int .i64 (c : Int)) rfl (by kernel_rfl) (by kernel_rfl) (by kernel_rfl) (fun _ _ _ h => h) (Or.inl ⟨by rfl, fun w' hS => by go_simp⟩) hHeld ?_
      simp only [Act.put, gA9, gZ9, gC9, sA9, sZ9, sC9]
      refine wpAnyH_take (i := 2) (v := .pointer (some ⟨b, off + c * 4, none⟩)) rfl (by kernel_rfl) (by kernel_rfl) (by kernel_rfl) (fun _ _ _ h => h) (Or.inl ⟨by rfl, fun w' hS => by go_simp⟩) hHeld ?_
      simp only [Act.put, gA9, gZ9, gC9, sA9, sZ9, sC9]
      refine wpAnyH_take (i := 3) (v := .agg (x.cs).toArray) rfl (by kernel_rfl) (by kernel_rfl) (by kernel_rfl) (fun _ _ _ h => h) (yieldsIf_load_mid (by rfl) 78 (.tmp 19) rfl b (off + c * 4) (by rfl) (x.cs) _ (fun w' hS => hS.1) Try.underlying78 rfl (by rw [Hx4.out]; kernel_rfl)) hHeld ?_
      simp only [Act.put, gA9, gZ9, gC9, sA9, sZ9, sC9]
      refine wpAnyH_take (i := 4) (v := .slice (some ⟨b2, off2, none⟩) L cb) rfl (by kernel_rfl) (by kernel_rfl) (by kernel_rfl) (fun _ _ _ h => h) (Or.inl ⟨by rfl, fun w' hS => by go_simp⟩) hHeld ?_
      simp only [Act.put, gA9, gZ9, gC9, sA9, sZ9, sC9]
      refine wpAnyH_take (i := 5) (v := .int .i64 (c : Int)) rfl (by kernel_rfl) (by kernel_rfl) (by kernel_rfl) (fun _ _ _ h => h) (Or.inl ⟨by rfl, fun w' hS => by go_simp⟩) hHeld ?_
      simp only [Act.put, gA9, gZ9, gC9, sA9, sZ9, sC9]
      refine wpAnyH_take (i := 6) (v := .pointer (some ⟨b2, off2 + c * 4, none⟩)) rfl (by kernel_rfl) (by kernel_rfl) (by kernel_rfl) (fun _ _ _ h => h) (Or.inl ⟨by rfl, fun w' hS => by go_simp⟩) hHeld ?_
      simp only [Act.put, gA9, gZ9, gC9, sA9, sZ9, sC9]
      refine wpAnyH_take (i := 7) (v := .agg (y.cs).toArray) rfl (by kernel_rfl) (by kernel_rfl) (by kernel_rfl) (fun _ _ _ h => h) (yieldsIf_load_mid (by rfl) 78 (.tmp 23) rfl b2 (off2 + c * 4) (by rfl) (y.cs) _ (fun w' hS => hS.2) Try.underlying78 rfl (by rw [Hy4.out]; kernel_rfl)) hHeld ?_
      simp only [Act.put, gA9, gZ9, gC9, sA9, sZ9, sC9]
      refine wpAnyH_ready (rs := [8]) (by kernel_rfl) (by simp) ?_
      refine AllReadyH.cons rfl (fun K hK => ?_) AllReadyH.nil
      go_simp
      refine (HM.out).mono ?_
      rintro e V ⟨rfl, hv⟩
      refine hK.out _ _ ⟨range_on HCx.out (bstep (drew_bel wr) hv), range_on HCy.out (bstep (drew_bel wr) hv)⟩ (fun hHeld => ?_)
      clear hK K
      refine wpAnyH_take (i := 9) (v := .bool false) rfl (by kernel_rfl) (by kernel_rfl) (by kernel_rfl) (fun _ _ _ h => h) (Or.inl ⟨by rfl, fun w' hS => by go_simp⟩) hHeld ?_
      simp only [Act.put, gA9, gZ9, gC9, sA9, sZ9, sC9]
      refine wpAnyH_done (by kernel_rfl) ?_ _
      clear hHeld
      go_wp2
      exact ⟨⟨c + 1, by omega, by go_num, bstep HB.out (bstep (drew_bel wr) hv)⟩, by simp [intOf]; omega⟩
    · obtain rfl : c = L := by omega
      clear hb
      go_wp2
      go_ret
      exact ⟨rfl, HB.out⟩
theorem zData : (Try.prog.info? 37).map (·.zero) = some (some (.agg #[.int .i64 0, .int .i64 0, .int .i64 0, .slice none 0 0])) := by kernel_rfl
set_option maxHeartbeats 4000000 in
theorem datas_any {ao : Option Addr} {cp : Nat} {ds : List Dx} (hd : RdDs w ao ds) (hn : ds.length ≤ 1048576) (hdz : ∀ i, i < ds.length → ((ds.getD i dx0).ba = none → (ds.getD i dx0).bs.length = 0 ∧ (ds.getD i dx0).bc = 0) ∧ (ds.getD i dx0).bs.length ≤ 1048576) : Calls Try.prog 5 #[.slice ao ds.length cp] w fun e w' => ∃ a c out, e = .returned (.slice a (out : List Dx).length c) ∧ MoT 37 w.heap.size w' (.slice a out.length c) out ∧ Al out ds ∧ Below w.heap.size w w' := by
  have HD : Hid (RdDs w ao ds) := hd
  have HDz : Hid (∀ i, i < ds.length → ((ds.getD i dx0).ba = none → (ds.getD i dx0).bs.length = 0 ∧ (ds.getD i dx0).bc = 0) ∧ (ds.getD i dx0).bs.length ≤ 1048576) := hdz
  generalize hL : ds.length = L at *
  have HLe : Hid (ds.length = L) := hL
  obtain ⟨di, dhi, dhz0, dhz1, dhz2⟩ := data_info
  obtain ⟨ui, uhi, uhz0, uhz1, uhz2⟩ := byte_info
  generalize hW0 : w.alloc (.cells #[] 37) = W0
  have B0 : Hid (Below w.heap.size w W0) := hW0 ▸ balloc (Below.refl _ _)
  have M0 : Hid (MoT 37 w.heap.size W0 (.slice (some ⟨w.heap.size, 0, none⟩) 0 0) []) := ⟨hW0 ▸ World.ownsRow_made w #[] 0 (by omega) (Nat.zero_le _) (by simp), fun i hi => by simp at hi, fun i j _ hj => by simp at hj⟩
  clear hd hdz hL
  go_enter Try.func5, Try.ntmps5
  go_wp2
  clear hW0
  go_loopw [3, 4] (fun mv iv wr => ∃ j : Nat, j ≤ L ∧ iv = .int .i64 (j : Int) ∧ (∃ out, out.length = j ∧ (∀ i, i < j → (out.getD i dx0).s = (ds.getD i dx0).s ∧ (out.getD i dx0).st = (ds.getD i dx0).st ∧ (out.getD i dx0).bs = (ds.getD i dx0).bs) ∧ MoT 37 w.heap.size wr mv out) ∧ Below w.heap.size w wr) (fun _ iv _ => L - (intOf iv).toNat)
  case atStart => exact ⟨0, Nat.zero_le _, rfl, ⟨[], rfl, fun i hi => by omega, M0.out⟩, B0.out⟩
  case round =>
    obtain ⟨j, hj, rfl, ⟨out, hol, hal, hmo⟩, hbj⟩ := hrel
    have Hol : Hid (out.length = j) := hol
    have HAl : Hid (∀ i, i < j → (out.getD i dx0).s = (ds.getD i dx0).s ∧ (out.getD i dx0).st = (ds.getD i dx0).st ∧ (out.getD i dx0).bs = (ds.getD i dx0).bs) := hal
    have HMo : Hid (MoT 37 w.heap.size wr u3 out) := hmo
    have HBj : Hid (Below w.heap.size w wr) := hbj
    clear hol hal hmo hbj M0 B0
    by_cases hlt : j < L
    · obtain ⟨b, off, rfl, hcc⟩ := (HD.out.still HBj.out).at (i := j) (by rw [HLe.out]; exact hlt)
      have HC : Hid (wr.rangeAt b (off + j * 4) (ds.getD j dx0).cs) := hcc
      have HRb : Hid (RdB wr (ds.getD j dx0).ba (ds.getD j dx0).bs) := ((HD.out.still HBj.out).el j (by rw [HLe.out]; exact hlt)).b
      have HZ2 : Hid (((ds.getD j dx0).ba = none → (ds.getD j dx0).bs.length = 0 ∧ (ds.getD j dx0).bc = 0) ∧ (ds.getD j dx0).bs.length ≤ 1048576) := HDz.out j hlt
      have HAx : Hid (∀ x : Dx, x.s = (ds.getD j dx0).s → x.st = (ds.getD j dx0).st → x.bs = (ds.getD j dx0).bs → ∀ i, i < j + 1 → ((out ++ [x]).getD i dx0).s = (ds.getD i dx0).s ∧ ((out ++ [x]).getD i dx0).st = (ds.getD i dx0).st ∧ ((out ++ [x]).getD i dx0).bs = (ds.getD i dx0).bs) := fun x h1 h2 h3 i hi => by
        by_cases e : i < j
        · have : (out ++ [x]).getD i dx0 = out.getD i dx0 := by simp [List.getD, List.getElem?_append, show i < out.length by rw [Hol.out]; exact e]
          rw [this]
          exact HAl.out i e
        · have hij : i = j := by omega
          subst hij
          have : (out ++ [x]).getD i dx0 = x := by simp [List.getD, ← Hol.out]
          rw [this]
          exact ⟨h1, h2, h3⟩
      have i1 : (0 : Int) ≤ (j : Int) := Int.natCast_nonneg _
      have i2 : (j : Int) < (L : Int) := by omega
      generalize ds.getD j dx0 = m at *
      have Hm4 : Hid (m.cs.length = 4) := rfl
      have hm1 := HZ2.out.2
      have Hbl : Hid ((byts m.bs).length = m.bs.length * 1) := (show (byts m.bs).length = m.bs.length * 1 from by rw [byts_len, Nat.mul_one])
      clear hcc
      go_upto_region 6 with (first
        | (refine load_mid 37 (.tmp 15) HC.out _ Try.underlying37 rfl (by rw [Hm4.out]; exact info_data) rfl rfl rfl ?_)
        | (refine wl_allocZ rfl 37 rfl zData ?_; intro Y2 k2 b2 s2; have K2 : Hid _ := k2; have BB2 : Hid _ := b2; clear k2 b2 s2)
        | (refine wl_storeZ rfl 37 _ _ rfl (L := m.cs) rfl rfl K2.out info_data rfl (dxcs_one _) ?_; intro Y4 k4 hk4; have K4 : Hid (Y4.heap[wr.heap.size]? = some (.cells m.cs.toArray 37 (0, 0))) := k4; have BB4 : Hid (Below wr.heap.size wr Y4) := BB2.out.trans (hk4.below BB2.out.size (fun k hk e => by omega)); clear k4 hk4)
        | fail)
      generalize hvb : wr.heap.size = vb at *
      have Hvb : Hid (wr.heap.size = vb) := hvb
      have BW4 : Hid (Below wr.heap.size wr Y4) := (show Below wr.heap.size wr Y4 from by rw [hvb]; exact BB4.out)
      clear hvb BB4 BB2 K2 HC
      generalize hY5 : Y4.alloc (.cells #[] 5) = Y5
      have B45 : Hid (Below Y4.heap.size Y4 Y5) := hY5 ▸ balloc (Below.refl _ _)
      have O5 : Hid (Y5.ownsRow Y4.heap.size 5 1 (.slice (some ⟨Y4.heap.size, 0, none⟩) 0 0) 0 []) := hY5 ▸ World.ownsRow_made Y4 #[] 0 (by omega) (Nat.zero_le _) (by simp)
      have q3 : Y5.cell? ⟨vb, 3, none⟩ = some (.slice m.ba m.bs.length m.bc) := blk_cell (blk_on B45.out K4.out) 3
      have HRb5 : Hid (RdB Y5 m.ba m.bs) := Row.still HRb.out (bstep BW4.out B45.out)
      go_upto_region 7 with (first
        | (refine app_g rfl _ _ 35 rfl Y4.heap.size 5 ui _ 1 1 Try.underlying35 uhi uhz0 uhz1 uhz2 rfl (by omega) (.slice (some ⟨Y4.heap.size, 0, none⟩) 0 0) 0 [] rfl O5.out m.ba m.bs.length m.bc (byts m.bs) rfl HZ2.out.1 Hbl.out (rdB_news HRb5.out) (byts_one m.bs) (by unfold maxLen; omega) (by omega) B45.out.size ?_; intro v6 Y6 o6 k6 f6; have B46 : Hid (Below Y4.heap.size Y4 Y6) := B45.out.trans (k6.out.below B45.out.size (fun k hk e => by simp [Value.ownBlock] at e; omega)); have K6 : Hid (Y6.heap[vb]? = some (.cells m.cs.toArray 37 (0, 0))) := blk_on B46.out K4.out; have q6 : Y6.cell? ⟨vb, 3, none⟩ = some (.slice m.ba m.bs.length m.bc) := blk_cell K6.out 3; have z6 : Y6.frozen? ⟨vb, 3, none⟩ = false := frozen_of_row _ _ 3 _ _ K6.out; have O6 : Hid (Y6.ownsRow Y4.heap.size 5 1 v6 m.bs.length (byts m.bs)) := (show Y6.ownsRow Y4.heap.size 5 1 v6 m.bs.length (byts m.bs) from by have := o6.out; rwa [Nat.zero_add, List.nil_append] at this); obtain ⟨a1, c1', rfl⟩ := own_sl O6.out; clear o6 k6 f6)
        | fail)
      obtain ⟨x, hxe⟩ : ∃ x : Dx, x = ⟨m.s, m.st, a1, c1', m.bs⟩ := ⟨_, rfl⟩
      have Hxe : Hid (x = ⟨m.s, m.st, a1, c1', m.bs⟩) := hxe
      have K7 : Hid ((Y6.setCell ⟨vb, 3, none⟩ (.slice a1 m.bs.length c1')).heap[vb]? = some (.cells x.cs.toArray 37 (0, 0))) := blk_set K6.out (by rw [hxe]; rfl)
      have KS := kset (P := fun k => k = vb) Y6 vb 3 (.slice a1 m.bs.length c1') rfl
      have B47 : Hid (Below Y4.heap.size Y4 (Y6.setCell ⟨vb, 3, none⟩ (.slice a1 m.bs.length c1')) ∨ True) := .inr trivial
      have O7 : Hid ((Y6.setCell ⟨vb, 3, none⟩ (.slice a1 m.bs.length c1')).ownsRow Y4.heap.size 5 1 (.slice a1 m.bs.length c1') m.bs.length (byts m.bs)) := own_ne O6.out K6.out (by decide) KS
      have BW7 : Hid (Below wr.heap.size wr (Y6.setCell ⟨vb, 3, none⟩ (.slice a1 m.bs.length c1'))) := (bstep BW4.out B46.out).trans (KS.below (bstep BW4.out B46.out).size (fun q hq e => by have := Hvb.out; omega))
      have HM7 : Hid (MoT 37 w.heap.size (Y6.setCell ⟨vb, 3, none⟩ (.slice a1 m.bs.length c1')) u3 out) := HMo.out.still BW7.out
      have h47 : Y4.heap.size ≤ (Y6.setCell ⟨vb, 3, none⟩ (.slice a1 m.bs.length c1')).heap.size := by simpa using B46.out.size
      clear hxe KS q6 z6 q3 hY5 B47
      generalize Y6.setCell ⟨vb, 3, none⟩ (.slice a1 m.bs.length c1') = Y7 at *
      have Hld : Hid (Y7.rangeAt vb 0 x.cs) := blk_range K7.out
      have Hx4 : Hid (x.cs.length = 4) := rfl
      go_wp2_with (first
        | (refine load_mid 37 (.tmp 5) Hld.out _ Try.underlying37 rfl (by rw [Hx4.out]; exact info_data) rfl rfl rfl ?_)
        | (refine wl_bsl rfl 29 37 1 _ rfl Try.underlying29 x.cs.toArray (bsl_eq (by kernel_rfl) (bDa x)) ?_; intro Z2 kz2 bz2 sz2; have KZ2 : Hid _ := kz2; have BZ2 : Hid (Below Y7.heap.size Y7 Z2) := bz2; clear kz2 bz2 sz2)
        | (refine app_g rfl _ _ 29 rfl w.heap.size 37 di _ 4 48 Try.underlying29 dhi dhz0 dhz1 dhz2 rfl (by omega) u3 out.length (msC out) rfl (own_still HM7.out.row BZ2.out) (some ⟨Y7.heap.size, 0, none⟩) 1 1 x.cs rfl (fun h => by cases h) (Dx.cs_len x) (fun ad he j u hu => by cases he; rw [Addr.add_lit, Nat.zero_add, blk_cell KZ2.out]; simpa using hu) (dxcs_one x) (by have := Hol.out; unfold maxLen; omega) (by have := Hol.out; omega) (Nat.le_trans (bstep HBj.out BW7.out).size BZ2.out.size) ?_; intro v3 Z3 o3 k3 f3)
        | fail)
      have BZ3 : Hid (Below w.heap.size w Z3) := (bstep (bstep HBj.out BW7.out) BZ2.out).trans (k3.out.below (bstep (bstep HBj.out BW7.out) BZ2.out).size (fun q hq e => by have h1 := (row_cells (own_still HM7.out.row BZ2.out) e).1; omega))
      have HNx : Hid (MoT 37 w.heap.size Z3 v3 (out ++ [x])) := MoT.app (by decide) HMo.out (x := x) (w1 := Z2) (own_lower (by have h1 := own_still O7.out BZ2.out; rw [Hxe.out]; exact h1) BW4.out.size) (bstep BW7.out BZ2.out) HBj.out.size k3.out o3.out
      exact ⟨⟨j + 1, by omega, by go_num, ⟨out ++ [x], by simp [Hol.out], HAx.out x (by rw [Hxe.out]) (by rw [Hxe.out]) (by rw [Hxe.out]), HNx.out⟩, BZ3.out⟩, by simp [intOf]; omega⟩
    · obtain rfl : j = L := by omega
      obtain ⟨la, lc, rfl⟩ : ∃ la lc, u3 = .slice la out.length lc := by
        rcases own_two HMo.out.row with ⟨h3, h4⟩ | ⟨g, cc, hv, _⟩
        · exact ⟨none, 0, by rw [h4]; exact h3⟩
        · exact ⟨_, _, hv⟩
      go_wp2
      go_ret
      exact ⟨la, lc, out, rfl, HMo.out, ⟨by rw [Hol.out, HLe.out], fun i hi => HAl.out i (by rw [← HLe.out]; exact hi)⟩, HBj.out⟩
end
end Go.Proofs.Ytihcaopcfhbofaa.Fm
