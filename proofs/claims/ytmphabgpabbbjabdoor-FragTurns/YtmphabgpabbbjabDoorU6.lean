import Derived.Test.YtmphabgpabbbjabDoorU5
import Derived.Test.YtmphabgpabbbjabDoorUs0
import Derived.Test.YtmphabgpabbbjabDoorUv
namespace Go.Proofs.YtmphabgpabbbjabDoor.Fg
open Go.RowKit Mb Ov
set_option linter.unusedVariables false
set_option maxRecDepth 100000
set_option linter.unusedSimpArgs false
section
variable {w w' W : World} {B : Nat}
theorem take_sim {p : Pt} {L : List (List Int)} (hp : p.Ok) (h : Rel p L) (c : List Int) : (take p c).b = (rtake L c).b ∧ (take p c).e = (rtake L c).e ∧ Rel (take p c).p (rtake L c).L := by
  unfold take rtake
  rw [rfits_eq hp h c]
  by_cases hf : (form c && fits p c) = true
  · rw [if_pos hf, if_pos hf]
    have hc := rcat h c
    rw [hc]
    by_cases h1 : (joined p c).length < sz c
    · rw [if_pos h1, if_pos h1]
      simp only [Bool.and_eq_true] at hf
      exact ⟨rfl, rfl, rel_next hp h ((form_iff c).1 hf.1) hf.2 h1⟩
    · rw [if_neg h1, if_neg h1]
      by_cases h2 : crc (joined p c) = sm c
      · rw [if_pos h2, if_pos h2]
        exact ⟨rfl, rfl, rel0⟩
      · rw [if_neg h2, if_neg h2]
        exact ⟨rfl, rfl, rel0⟩
  · rw [if_neg hf, if_neg hf]
    exact ⟨rfl, rfl, h⟩
def down (J : Jn) (Q : Qn) (k : Nat) : Prop := J.own k ∨ Q.own k
structure Duo (w : World) (B : Nat) (J : Jn) (Q : Qn) : Prop where
  j : J.Ok w B
  q : Q.Ok w B
  n : J.n = Q.n
  rel : ∀ s, s < J.n → Rel (J.ps s) (Q.L s)
  dj : ∀ k, J.own k → ¬ Q.own k
theorem Duo.still {J : Jn} {Q : Qn} (h : Duo w B J Q) (hb : Below w.heap.size w w') : Duo w' B J Q := ⟨h.j.still hb, h.q.still hb, h.n, h.rel, h.dj⟩
theorem Duo.keep {J : Jn} {Q : Qn} {P : Nat → Prop} (h : Duo w B J Q) (k : Kept w w' P) (hp : ∀ j, down J Q j → ¬ P j) : Duo w' B J Q := ⟨h.j.keep k fun j hj => hp j (.inl hj), h.q.keep k fun j hj => hp j (.inr hj), h.n, h.rel, h.dj⟩
theorem Duo.lt {J : Jn} {Q : Qn} (h : Duo w B J Q) : ∀ k, down J Q k → k < w.heap.size := fun k hk => hk.elim (h.j.own_lt k) (h.q.own_lt k)
theorem Duo.lo {J : Jn} {Q : Qn} (h : Duo w B J Q) : ∀ k, down J Q k → B ≤ k := fun k hk => hk.elim (h.j.own_lo k) (h.q.own_lo k)
structure PlOut (w w' : World) (B : Nat) (J : Jn) (Q : Qn) (e : Ending) : Prop where
  ret : e = .returned (.bool true)
  out : ∃ J' Q', J'.b = J.b ∧ Q'.b = Q.b ∧ Duo w' B J' Q' ∧ Kept w w' (down J Q) ∧ ∀ j, down J' Q' j → down J Q j ∨ w.heap.size ≤ j
theorem PlOut.same {J : Jn} {Q : Qn} (h : Duo w B J Q) (hb : Below w.heap.size w w') : PlOut w w' B J Q (.returned (.bool true)) :=
  ⟨rfl, J, Q, rfl, rfl, h.still hb, Kept.ofBelow hb _, fun j hj => .inl hj⟩
set_option maxHeartbeats 1000000 in
theorem plays_no {J : Jn} {Q : Qn} (h : Duo w B J Q) {k s : Int} {a : Option Addr} {m c : Nat} (hk : k ≠ 1 ∧ k ≠ 2 ∧ k ≠ 3) : Calls Tryd.prog 8 #[.pointer (some ⟨J.b, 0, none⟩), .pointer (some ⟨Q.b, 0, none⟩), .agg #[.int .i64 k, .int .i64 s, .slice a m c]] w fun e w' => PlOut w w' B J Q e := by
  generalize hW : w.alloc (.cells #[.int .i64 k, .int .i64 s, .slice a m c] 34) = W
  have hbW : Below w.heap.size w W := by rw [← hW]; exact balloc (Below.refl _ w)
  have hblk : W.heap[w.heap.size]? = some (.cells #[.int .i64 k, .int .i64 s, .slice a m c] 34 (0, 0)) := by rw [← hW]; exact heap_alloc_new w _
  have x0 : W.cell? ⟨w.heap.size, 0, none⟩ = some (.int .i64 k) := blk_cell hblk 0
  have k1 : (k == 1) = false := by rw [beq_eq_false_iff_ne]; exact hk.1
  have k2 : (k == 2) = false := by rw [beq_eq_false_iff_ne]; exact hk.2.1
  have k3 : (k == 3) = false := by rw [beq_eq_false_iff_ne]; exact hk.2.2
  have HP : Hid (PlOut w W B J Q (.returned (.bool true))) := PlOut.same h hbW
  clear hblk h hk
  go_enter Tryd.func8, Tryd.ntmps8
  go_wp2
  go_ret
  exact HP.out
set_option maxHeartbeats 1000000 in
theorem plays_held {J : Jn} {Q : Qn} (h : Duo w B J Q) {s : Int} {a : Option Addr} {m c : Nat} : Calls Tryd.prog 8 #[.pointer (some ⟨J.b, 0, none⟩), .pointer (some ⟨Q.b, 0, none⟩), .agg #[.int .i64 2, .int .i64 s, .slice a m c]] w fun e w' => PlOut w w' B J Q e := by
  generalize hW : w.alloc (.cells #[.int .i64 2, .int .i64 s, .slice a m c] 34) = W
  have hbW : Below w.heap.size w W := by rw [← hW]; exact balloc (Below.refl _ w)
  have hblk : W.heap[w.heap.size]? = some (.cells #[.int .i64 2, .int .i64 s, .slice a m c] 34 (0, 0)) := by rw [← hW]; exact heap_alloc_new w _
  have x0 : W.cell? ⟨w.heap.size, 0, none⟩ = some (.int .i64 2) := blk_cell hblk 0
  have x1 : W.cell? ⟨w.heap.size, 1, none⟩ = some (.int .i64 s) := blk_cell hblk 1
  obtain ⟨y, hy⟩ : ∃ y : Int, (if 0 ≤ s ∧ s < (J.n : Int) then ((J.ps s.toNat).bs.length : Int) else 0) = y := ⟨_, rfl⟩
  have H1 : Hid (∀ W', Below w.heap.size w W' → Calls Tryd.prog 16 #[.pointer (some ⟨J.b, 0, none⟩), .int .i64 s] W' fun e w' => e = .returned (.int .i64 y) ∧ W' = w') := fun W' hb => by rw [← hy]; exact held_any (h.j.still hb) s
  have H2 : Hid (∀ W', Below w.heap.size w W' → Calls Tryd.prog 17 #[.pointer (some ⟨Q.b, 0, none⟩), .int .i64 s] W' fun e w' => e = .returned (.int .i64 y) ∧ Below W'.heap.size W' w') := fun W' hb => by
    have h1 := qheld_any (h.q.still hb) s
    rw [← h.n] at h1
    have e : (if 0 ≤ s ∧ s < (J.n : Int) then ((cat (Q.L s.toNat)).length : Int) else 0) = y := by
      rw [← hy]
      by_cases hs : 0 ≤ s ∧ s < (J.n : Int)
      · rw [if_pos hs, if_pos hs]
        have := (h.rel s.toNat (by omega)).cat
        unfold cat
        rw [this]
      · rw [if_neg hs, if_neg hs]
    rw [e] at h1
    exact h1
  have HD : Hid (Duo w B J Q) := h
  have HbW : Hid (Below w.heap.size w W) := hbW
  clear hblk h hy hbW
  go_enter Tryd.func8, Tryd.ntmps8
  go_wp2
  refine wp_region_held_drew (S := (fun w' => w'.cell? ⟨w.heap.size, 1, none⟩ = some (.int .i64 s) ∧ Below w.heap.size w w')) (by kernel_rfl) ⟨below_at (Below.refl _ _).drew x1, HbW.out.drew⟩ (fun hHeld => ?_)
  simp only [Act.put, List.size_toArray, List.length_cons, List.length_nil, Nat.zero_add]
  refine wpAnyH_take (i := 0) (v := .pointer (some ⟨J.b, 0, none⟩)) rfl (by kernel_rfl) (by kernel_rfl) (by kernel_rfl) (fun _ _ _ h => h) (Or.inl ⟨by rfl, fun w' hS => by go_simp⟩) hHeld ?_
  simp only [Act.put, List.getElem_toArray, List.getElem_cons_zero, List.getElem_cons_succ, List.setIfInBounds_toArray, List.set_cons_zero, List.set_cons_succ]
  refine wpAnyH_take (i := 1) (v := .pointer (some ⟨w.heap.size, 1, none⟩)) rfl (by kernel_rfl) (by kernel_rfl) (by kernel_rfl) (fun _ _ _ h => h) (Or.inl ⟨by rfl, fun w' hS => by go_simp⟩) hHeld ?_
  simp only [Act.put, List.getElem_toArray, List.getElem_cons_zero, List.getElem_cons_succ, List.setIfInBounds_toArray, List.set_cons_zero, List.set_cons_succ]
  refine wpAnyH_take (i := 2) (v := .int .i64 s) rfl (by kernel_rfl) (by kernel_rfl) (by kernel_rfl) (fun _ _ _ h => h) (Or.inl ⟨by rfl, fun w' hS => by (obtain ⟨s0, s1⟩ := hS; go_simp)⟩) hHeld ?_
  simp only [Act.put, List.getElem_toArray, List.getElem_cons_zero, List.getElem_cons_succ, List.setIfInBounds_toArray, List.set_cons_zero, List.set_cons_succ]
  refine wpAnyH_take (i := 4) (v := .pointer (some ⟨Q.b, 0, none⟩)) rfl (by kernel_rfl) (by kernel_rfl) (by kernel_rfl) (fun _ _ _ h => h) (Or.inl ⟨by rfl, fun w' hS => by go_simp⟩) hHeld ?_
  simp only [Act.put, List.getElem_toArray, List.getElem_cons_zero, List.getElem_cons_succ, List.setIfInBounds_toArray, List.set_cons_zero, List.set_cons_succ]
  refine wpAnyH_take (i := 5) (v := .pointer (some ⟨w.heap.size, 1, none⟩)) rfl (by kernel_rfl) (by kernel_rfl) (by kernel_rfl) (fun _ _ _ h => h) (Or.inl ⟨by rfl, fun w' hS => by go_simp⟩) hHeld ?_
  simp only [Act.put, List.getElem_toArray, List.getElem_cons_zero, List.getElem_cons_succ, List.setIfInBounds_toArray, List.set_cons_zero, List.set_cons_succ]
  refine wpAnyH_take (i := 6) (v := .int .i64 s) rfl (by kernel_rfl) (by kernel_rfl) (by kernel_rfl) (fun _ _ _ h => h) (Or.inl ⟨by rfl, fun w' hS => by (obtain ⟨s0, s1⟩ := hS; go_simp)⟩) hHeld ?_
  simp only [Act.put, List.getElem_toArray, List.getElem_cons_zero, List.getElem_cons_succ, List.setIfInBounds_toArray, List.set_cons_zero, List.set_cons_succ]
  refine wpAnyH_ready (rs := [3]) (by kernel_rfl) (by simp) ?_
  refine AllReadyH.cons rfl (fun K hK => ?_) AllReadyH.nil
  go_simp
  refine (H1.out _ hHeld.2).mono ?_
  rintro e w2 ⟨rfl, rfl⟩
  refine hK.out _ _ ⟨hHeld.1, hHeld.2⟩ (fun hHeld => ?_)
  clear hK K
  refine wpAnyH_ready (rs := [7]) (by kernel_rfl) (by simp) ?_
  refine AllReadyH.cons rfl (fun K hK => ?_) AllReadyH.nil
  go_simp
  refine (H2.out _ hHeld.2).mono ?_
  rintro e w3 ⟨rfl, hb3⟩
  refine hK.out _ _ ⟨below_at hb3 hHeld.1, bstep hHeld.2 hb3⟩ (fun hHeld => ?_)
  clear hK K
  refine wpAnyH_take (i := 8) (v := .bool true) rfl (by kernel_rfl) (by kernel_rfl) (by kernel_rfl) (fun _ _ _ h => h) (Or.inl ⟨by rfl, fun w' hS => by go_simp⟩) hHeld ?_
  simp only [Act.put, List.getElem_toArray, List.getElem_cons_zero, List.getElem_cons_succ, List.setIfInBounds_toArray, List.set_cons_zero, List.set_cons_succ]
  refine wpAnyH_take (i := 9) (v := .bool true) rfl (by kernel_rfl) (by kernel_rfl) (by kernel_rfl) (fun _ _ _ h => h) (Or.inl ⟨by rfl, fun w' hS => by go_simp⟩) hHeld ?_
  simp only [Act.put, List.getElem_toArray, List.getElem_cons_zero, List.getElem_cons_succ, List.setIfInBounds_toArray, List.set_cons_zero, List.set_cons_succ]
  have HB3 : Hid (Below w.heap.size w w3) := hHeld.2
  refine wpAnyH_done (by kernel_rfl) ?_ _
  clear hHeld hb3
  go_wp2
  go_ret
  exact PlOut.same HD.out HB3.out
set_option maxHeartbeats 1000000 in
theorem plays_reset {J : Jn} {Q : Qn} (h : Duo w B J Q) {s : Int} {a : Option Addr} {m c : Nat} : Calls Tryd.prog 8 #[.pointer (some ⟨J.b, 0, none⟩), .pointer (some ⟨Q.b, 0, none⟩), .agg #[.int .i64 3, .int .i64 s, .slice a m c]] w fun e w' => PlOut w w' B J Q e := by
  generalize hW : w.alloc (.cells #[.int .i64 3, .int .i64 s, .slice a m c] 34) = W
  have hbW : Below w.heap.size w W := by rw [← hW]; exact balloc (Below.refl _ w)
  have hblk : W.heap[w.heap.size]? = some (.cells #[.int .i64 3, .int .i64 s, .slice a m c] 34 (0, 0)) := by rw [← hW]; exact heap_alloc_new w _
  have x0 : W.cell? ⟨w.heap.size, 0, none⟩ = some (.int .i64 3) := blk_cell hblk 0
  have HD : Hid (Duo w B J Q) := h
  have HbW : Hid (Below w.heap.size w W) := hbW
  clear hblk h hbW
  go_enter Tryd.func8, Tryd.ntmps8
  go_wp2_with fail
  refine (reset_any (HD.out.j.still HbW.out)).mono ?_
  rintro e w1 ⟨rfl, hj1, hk1⟩
  have hq1 : Q.Ok w1 B := (HD.out.q.still HbW.out).keep hk1 fun j hj e => HD.out.dj J.bp (.inr (.inl rfl)) (by rw [← e]; exact hj)
  go_wp2_with fail
  refine (qreset_any hq1).mono ?_
  rintro e w2 ⟨rfl, Q', hQb, hQn, hQL, hq2, hk2, hown⟩
  have HP : Hid (PlOut w w2 B J Q (.returned (.bool true))) := (show PlOut w w2 B J Q (.returned (.bool true)) from by
    have hJo : ∀ j, J.reset.own j → J.own j := fun j hj => by
      rcases hj with hj | hj | ⟨t, ht⟩
      · exact .inl hj
      · exact .inr (.inl hj)
      · cases ht
    refine ⟨rfl, J.reset, Q', rfl, hQb, ⟨hj1.keep hk2 fun j hj hh => HD.out.dj j (hJo j hj) hh, hq2, by rw [hQn]; exact HD.out.n, fun t ht => ?_, fun j hj hh => HD.out.dj j (hJo j hj) (hown j hh)⟩, ((Kept.ofBelow HbW.out _).step hk1 (fun j hj => .inl (.inl (.inr (.inl hj))))).step hk2 (fun j hj => .inl (.inr hj)), fun j hj => .inl (hj.elim (fun h => .inl (hJo j h)) (fun h => .inr (hown j h)))⟩
    have hn16 := HD.out.j.n16
    have ht' : t < J.n := ht
    rw [hQL t (by omega)]
    exact rel0)
  clear hj1 hk1 hq1 hq2 hk2 hown
  go_wp2
  go_ret
  exact HP.out

theorem Rd.keep0 {P : Nat → Prop} {ao : Option Addr} {n c : Nat} {bs : List Int} (h : Rd w ao n c bs) (k : Kept w w' P) (hp : 0 < n → In ao fun b => ¬ P b) : Rd w' ao n c bs := by
  by_cases h0 : n = 0
  · exact ⟨h.len, h.cap, h.nil, .inl h0, h.by_⟩
  · exact h.keep k (hp (by omega))
theorem Rd.inl {ao : Option Addr} {n c : Nat} {bs : List Int} (h : Rd w ao n c bs) (h0 : 0 < n) : In ao fun b => b < w.heap.size := fun b off he => by
  rcases h.at_ with h1 | ⟨b', off', h1, h2⟩
  · omega
  · rw [he] at h1
    cases h1
    exact World.block_lt_of_cell? w _ (h2 0 h0)
theorem in_lt {a : Option Addr} {P : Nat → Prop} (h : In a fun b => b < B) (hp : ∀ k, P k → B ≤ k) : In a fun b => ¬ P b := fun b off he hP => by
  have := h b off he
  have := hp b hP
  omega
set_option maxHeartbeats 2000000 in
theorem plays_take {J : Jn} {Q : Qn} (h : Duo w B J Q) {s : Int} {a : Option Addr} {m c : Nat} {bs : List Int} (hr : Rd w a m c bs) (hm : m ≤ 140737488351232) (hin : 0 < m → In a fun b => b < B) (hT : Tab w) (hB0 : 0 < B) (hB : B ≤ w.heap.size) : Calls Tryd.prog 8 #[.pointer (some ⟨J.b, 0, none⟩), .pointer (some ⟨Q.b, 0, none⟩), .agg #[.int .i64 1, .int .i64 s, .slice a m c]] w fun e w' => PlOut w w' B J Q e := by
  generalize hW : w.alloc (.cells #[.int .i64 1, .int .i64 s, .slice a m c] 34) = W
  have hbW : Below w.heap.size w W := by rw [← hW]; exact balloc (Below.refl _ w)
  have hblk : W.heap[w.heap.size]? = some (.cells #[.int .i64 1, .int .i64 s, .slice a m c] 34 (0, 0)) := by rw [← hW]; exact heap_alloc_new w _
  generalize hkd : w.heap.size = kd at *
  have hkW : kd < W.heap.size := lt_heap hblk
  have x0 : W.cell? ⟨kd, 0, none⟩ = some (.int .i64 1) := blk_cell hblk 0
  have x1 : W.cell? ⟨kd, 1, none⟩ = some (.int .i64 s) := blk_cell hblk 1
  have x2 : W.cell? ⟨kd, 2, none⟩ = some (.slice a m c) := blk_cell hblk 2
  have HD : Hid (Duo W B J Q) := h.still (by rw [hkd]; exact hbW)
  have Hr : Hid (Rd W a m c bs) := hr.still (by rw [hkd]; exact hbW)
  have HbW : Hid (Below kd w W) := hbW
  have HT : Hid (Tab W) := hT.still (by rw [hkd]; exact hbW)
  have Hlt : Hid (∀ k, down J Q k → k < kd) := fun k hk => by rw [← hkd]; exact h.lt k hk
  have Hlo : Hid (∀ k, down J Q k → B ≤ k) := h.lo
  have hl := hr.len
  have hby := hr.by_
  clear hblk h hr hbW hT
  go_enter Tryd.func8, Tryd.ntmps8
  go_wp2_with fail
  clear hW
  refine (spare_any Hr.out (by omega)).mono ?_
  rintro e w1 ⟨g, c1, rfl, hc1, hg1, ho1, hb1⟩
  have y0 := below_at hb1 x0
  have y1 := below_at hb1 x1
  have y2 := below_at hb1 x2
  have hgl := (own_block_lt ho1).2
  have HD1 : Hid (Duo w1 B J Q) := HD.out.still hb1
  have Hr1 : Hid (Rd w1 a m c bs) := Hr.out.still hb1
  have HT1 : Hid (Tab w1) := HT.out.still hb1
  have HB1 : Hid (Below kd w w1) := HbW.out.trans (hb1.mono (by omega))
  have Hsp : Hid (Rd w1 (some ⟨g, 0, none⟩) m c1 bs) := ho1.rdPre hby hl (by omega)
  have Ho1 : Hid (Own w1 W.heap.size (.slice (some ⟨g, 0, none⟩) (m + 64) c1) (bs ++ marks 64)) := ho1
  have hBk : B ≤ kd := by omega
  clear ho1 hb1 x0 x1 x2
  by_cases hs : 0 ≤ s ∧ s < (J.n : Int)
  · obtain ⟨k, rfl⟩ := Int.eq_ofNat_of_zero_le hs.1
    have hkn : k < J.n := by omega
    have hkq : k < Q.n := by rw [← HD1.out.n]; exact hkn
    have hsim := take_sim (HD1.out.j.ok k) (HD1.out.rel k hkn) bs
    go_wp2_with fail
    refine (take_any HD1.out.j hkn Hsp.out (by omega) HT1.out hB0).mono ?_
    rintro e w2 ⟨ra, rn, rc, gn, rfl, hra, hrb, hj2, hk2, how2⟩
    have hlt2 : ∀ j, J.own j → j < kd := fun j hj => Hlt.out j (.inl hj)
    have z0 := kept_cell hk2 (fun hh => by have := hlt2 _ hh; omega) y0
    have z1 := kept_cell hk2 (fun hh => by have := hlt2 _ hh; omega) y1
    have z2 := kept_cell hk2 (fun hh => by have := hlt2 _ hh; omega) y2
    have ho2 : Own w2 W.heap.size (.slice (some ⟨g, 0, none⟩) (m + 64) c1) (bs ++ marks 64) := Ho1.out.keep hk2 (fun q hq hh => by simp [Value.ownBlock] at hq; have := hlt2 _ hh; omega)
    have hr2 : Rd w2 a m c bs := Hr1.out.keep0 hk2 fun h0 => in_lt (hin h0) fun j hj => Hlo.out j (.inl hj)
    have hs12 := hk2.size
    clear y0 y1 y2
    go_wp2_with fail
    refine (intact_any ho2 hc1 hr2 (by omega)).mono ?_
    rintro e w' ⟨rfl, rfl⟩
    go_wp2_with fail
    refine (full_any (own_full ho2 (by omega)) (by omega)).mono ?_
    rintro e w3 ⟨rfl, hk3⟩
    have u0 := kept_cell hk3 (by omega) z0
    have u1 := kept_cell hk3 (by omega) z1
    have u2 := kept_cell hk3 (by omega) z2
    have hq3 : Q.Ok w3 B := (HD1.out.q.keep hk2 fun j hj hh => HD1.out.dj j hh hj).keep hk3 fun j hj e => by have := Hlt.out j (.inr hj); omega
    have hr3 : Rd w3 a m c bs := hr2.keep0 hk3 fun h0 b off he e => by have := hin h0 b off he; omega
    have hs23 := hk3.size
    clear z0 z1 z2 ho2 hr2
    go_wp2_with fail
    refine (qtake_any hq3 hkq hr3 (by omega) (by omega) (fun h0 => in_lt (hin h0) fun j hj => Hlo.out j (.inr hj))).mono ?_
    rintro e w4 ⟨qa, qn, qc, qv, qvs, rfl, hqa, hqb, hq4, hk4, how4⟩
    obtain ⟨hsb, hse, hsr⟩ := hsim
    have hs34 := hk4.size
    have HS : Hid (Calls Tryd.prog 15 #[.slice ra rn rc, .slice qa qn qc] w4 fun e w' => e = .returned (.bool true) ∧ w4 = w') := (show Calls _ _ _ _ _ from by
      cases hb : (take (J.ps k) bs).b with
      | none =>
        obtain ⟨rfl, rfl, rfl⟩ := hra hb
        rw [hb] at hsb
        obtain ⟨rfl, rfl, rfl⟩ := hqa hsb.symm
        exact same_any (rd_nil _) (rd_nil _)
      | some x =>
        obtain ⟨g', rfl, rfl, rfl, hbk, hxb, hg1', hg2', hg3'⟩ := hrb x hb
        rw [hb] at hsb
        have h1 := hqb x hsb.symm
        have hgg : g' ≠ g := by
          rcases hg3' with h2 | h2
          · have := hlt2 _ h2; omega
          · omega
        have hgq : ¬ Q.own g' := by
          rcases hg3' with h2 | h2
          · exact HD1.out.dj g' h2
          · intro hh
            have := Hlt.out g' (.inr hh)
            omega
        exact same_any (((hbk.keep hk3 hgg).keep hk4 hgq).all _ (Nat.le_refl _) hxb) h1)
    have HP : Hid (PlOut w w4 B J Q (.returned (.bool true))) := (show PlOut w w4 B J Q (.returned (.bool true)) from by
      have hd : ∀ j, (J.put k (take (J.ps k) bs).p gn).own j → ¬ Q.own j := fun j hj hh => by
        rcases how2 j hj with h1 | h1
        · exact HD1.out.dj j h1 hh
        · have := Hlt.out j (.inr hh)
          omega
      have hj3 := hj2.keep hk3 (fun j hj e => by
        rcases how2 j hj with h1 | h1
        · have := hlt2 j h1; omega
        · omega)
      refine ⟨rfl, J.put k (take (J.ps k) bs).p gn, Q.put k (rtake (Q.L k) bs).L qv qvs, rfl, rfl, ⟨hj3.keep hk4 hd, hq4, HD1.out.n, fun t ht => ?_, fun j hj hh => ?_⟩, ?_, fun j hj => ?_⟩
      · by_cases e : t = k
        · subst e
          simp only [Jn.put, Qn.put, upd_same]
          exact hsr
        · simp only [Jn.put, Qn.put, upd_ne _ _ e]
          exact HD1.out.rel t ht
      · have hjl := hj3.own_lt j hj
        rcases how4 j hh with h1 | h1
        · exact hd j hj h1
        · omega
      · refine (((Kept.ofBelow (by rw [hkd]; exact HB1.out) _).step hk2 (fun j hj => .inl (.inl hj))).step hk3 (fun j hj => .inr (by omega))).step hk4 (fun j hj => .inl (.inr hj))
      · rcases hj with hj | hj
        · rcases how2 j hj with h1 | h1
          · exact .inl (.inl h1)
          · exact .inr (by omega)
        · rcases how4 j hj with h1 | h1
          · exact .inl (.inr h1)
          · exact .inr (by omega))
    rw [← hsb, ← hse]
    have hbb : ((take (J.ps k) bs).b.isSome == (take (J.ps k) bs).b.isSome) = true := by simp
    generalize (take (J.ps k) bs).b.isSome = bo at *
    generalize ((take (J.ps k) bs).e : Int) = eo at *
    clear hj2 hk2 how2 hk3 hq3 hr3 hq4 hk4 how4 hra hrb hqa hqb hsb hse hsr u0 u1 u2
    cases bo with
    | true =>
      go_wp2_with (first
        | (go_at_call 15; refine HS.out.mono ?_; rintro e w' ⟨rfl, rfl⟩)
        | (go_at_call 7; refine (num_any _).mono ?_; rintro e w' ⟨rfl, rfl⟩)
        | fail)
      go_ret
      exact HP.out
    | false =>
      go_wp2_with (first
        | (go_at_call 15; refine HS.out.mono ?_; rintro e w' ⟨rfl, rfl⟩)
        | (go_at_call 7; refine (num_any _).mono ?_; rintro e w' ⟨rfl, rfl⟩)
        | fail)
      go_ret
      exact HP.out
  · go_wp2_with fail
    refine (take_arg HD1.out.j hs).mono ?_
    rintro e w' ⟨rfl, rfl⟩
    go_wp2_with fail
    refine (intact_any Ho1.out hc1 Hr1.out (by omega)).mono ?_
    rintro e w' ⟨rfl, rfl⟩
    go_wp2_with fail
    refine (full_any (own_full Ho1.out (by omega)) (by omega)).mono ?_
    rintro e w3 ⟨rfl, hk3⟩
    have u0 := kept_cell hk3 (by omega) y0
    have u1 := kept_cell hk3 (by omega) y1
    have u2 := kept_cell hk3 (by omega) y2
    have hd3 : Duo w3 B J Q := HD1.out.keep hk3 fun j hj e => by have := Hlt.out j hj; omega
    clear y0 y1 y2
    go_wp2_with fail
    refine (qtake_arg hd3.q (x := s) (by rw [← hd3.n]; exact hs)).mono ?_
    rintro e w' ⟨rfl, rfl⟩
    have HS : Hid (Calls Tryd.prog 15 #[.slice none 0 0, .slice none 0 0] w3 fun e w' => e = .returned (.bool true) ∧ w3 = w') := same_any (rd_nil _) (rd_nil _)
    have HP : Hid (PlOut w w3 B J Q (.returned (.bool true))) := (show PlOut w w3 B J Q (.returned (.bool true)) from ⟨rfl, J, Q, rfl, rfl, hd3, (Kept.ofBelow (by rw [hkd]; exact HB1.out) _).step hk3 (fun j hj => .inr (by omega)), fun j hj => .inl hj⟩)
    clear hk3 hd3 u0 u1 u2
    go_wp2_with (first
      | (go_at_call 15; refine HS.out.mono ?_; rintro e w' ⟨rfl, rfl⟩)
      | (go_at_call 7; refine (num_any _).mono ?_; rintro e w' ⟨rfl, rfl⟩)
      | fail)
    go_ret
    exact HP.out
theorem plays_any {J : Jn} {Q : Qn} (h : Duo w B J Q) {k s : Int} {a : Option Addr} {m c : Nat} {bs : List Int} (hr : Rd w a m c bs) (hm : m ≤ 140737488351232) (hin : 0 < m → In a fun b => b < B) (hT : Tab w) (hB0 : 0 < B) (hB : B ≤ w.heap.size) : Calls Tryd.prog 8 #[.pointer (some ⟨J.b, 0, none⟩), .pointer (some ⟨Q.b, 0, none⟩), .agg #[.int .i64 k, .int .i64 s, .slice a m c]] w fun e w' => PlOut w w' B J Q e := by
  by_cases h1 : k = 1
  · subst h1; exact plays_take h hr hm hin hT hB0 hB
  · by_cases h2 : k = 2
    · subst h2; exact plays_held h
    · by_cases h3 : k = 3
      · subst h3; exact plays_reset h
      · exact plays_no h ⟨h1, h2, h3⟩
end
end Go.Proofs.YtmphabgpabbbjabDoor.Fg
