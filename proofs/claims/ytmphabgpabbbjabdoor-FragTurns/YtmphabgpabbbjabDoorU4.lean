import Derived.Test.YtmphabgpabbbjabDoorU3
namespace Go.Proofs.YtmphabgpabbbjabDoor.Fg
open Go.RowKit Mb
set_option linter.unusedVariables false
set_option maxRecDepth 100000
set_option linter.unusedSimpArgs false
section
variable {w w' W : World} {B : Nat}
theorem no_blks {k : Nat} : ¬ blks (.slice none 0 0) [] k := by
  rintro (h | ⟨u, hu, _⟩)
  · cases h
  · cases hu
theorem Qn.Ok.zero {Q : Qn} (h : Q.Ok w B) (s : Nat) : (Q.put s [] (.slice none 0 0) []).Ok (w.setCell ⟨Q.b, s + 1, none⟩ (.slice none 0 0)) B :=
  h.put (Kept.refl _ _) (rs_zero _ _) (fun x hx => by cases hx) (by simp) (fun j hj => by cases hj)
set_option maxHeartbeats 400000 in
theorem qreset_any {Q : Qn} (h : Q.Ok w B) : Calls Tryd.prog 19 #[.pointer (some ⟨Q.b, 0, none⟩)] w fun e w' => e = .returned (.tuple #[]) ∧ ∃ Q' : Qn, Q'.b = Q.b ∧ Q'.n = Q.n ∧ (∀ s, s < 16 → Q'.L s = []) ∧ Q'.Ok w' B ∧ Kept w w' Q.own ∧ ∀ k, Q'.own k → Q.own k := by
  have Hh : Hid (Q.Ok w B) := h
  clear h
  go_enter Tryd.func19, Tryd.ntmps19
  go_wp2
  go_loopw [2] (fun v wr => ∃ (i : Nat) (Q' : Qn), i ≤ 16 ∧ v = .int .i64 (i : Int) ∧ Hid (Q'.b = Q.b ∧ Q'.n = Q.n) ∧ Hid (∀ s, s < i → Q'.L s = []) ∧ Hid (Q'.Ok wr B) ∧ Hid (Kept w wr Q.own) ∧ Hid (∀ k, Q'.own k → Q.own k)) (fun v _ => 16 - (intOf v).toNat)
  case atStart => exact ⟨0, Q, Nat.zero_le _, rfl, ⟨rfl, rfl⟩, fun s hs => (by omega), Hh, Kept.refl _ _, fun _ h => h⟩
  case round =>
    obtain ⟨i, Q', hi, rfl, hQ, hL, hok, hkp, hown⟩ := hrel
    by_cases hlt : i < 16
    · have i1 : (0 : Int) ≤ (i : Int) := Int.natCast_nonneg _
      have i2 : (i : Int) < 16 := by omega
      have hc := hok.out.blk.cell (1 + i) (by omega)
      have hf := hok.out.blk.fz (1 + i)
      have hz := hok.out.zero i
      rw [hQ.out.1] at hc hf hz
      rw [show i + 1 = 1 + i by omega] at hz
      have HZ : Hid ((Q'.put i [] (.slice none 0 0) []).Ok (wr.setCell ⟨Q.b, 1 + i, none⟩ (.slice none 0 0)) B) := hz
      have HK : Hid (Kept w (wr.setCell ⟨Q.b, 1 + i, none⟩ (.slice none 0 0)) Q.own) := hkp.out.trans (kset wr Q.b (1 + i) _ (.inl rfl))
      have HO : Hid (∀ k, (Q'.put i [] (.slice none 0 0) []).own k → Q.own k) := fun k hk => (qown_put hk).elim (hown.out k) (fun hh => (no_blks hh).elim)
      have HL : Hid (∀ s, s < i + 1 → (Q'.put i [] (.slice none 0 0) []).L s = []) := fun s hs => by
        by_cases e : s = i
        · subst e; simp [Qn.put, upd_same]
        · simp only [Qn.put, upd_ne _ _ e]; exact hL.out s (by omega)
      generalize Q'.f (1 + i) = y at hc
      clear hz hok hkp hown hL
      go_wp2
      go_roundw
      case rel => exact ⟨i + 1, Q'.put i [] (.slice none 0 0) [], by omega, by go_num, hQ, HL, HZ, HK, HO⟩
      case measure => simp [intOf]; omega
    · obtain rfl : i = 16 := by omega
      go_wp2
      go_end0
      exact ⟨rfl, Q', hQ.out.1, hQ.out.2, hL.out, hok.out, hkp.out, hown.out⟩
structure Ro where
  L : List (List Int)
  b : Option (List Int)
  e : Nat
def rtake (L : List (List Int)) (c : List Int) : Ro :=
  if form c && rfits L c then
    if (cat (rbeg L c ++ [c])).length < sz c then ⟨rbeg L c ++ [c], none, 0⟩
    else if crc (cat (rbeg L c ++ [c])) = sm c then ⟨[], some (cat (rbeg L c ++ [c])), 0⟩ else ⟨[], none, 91⟩
  else ⟨L, none, 91⟩
structure RkOut (w w' : World) (B : Nat) (Q : Qn) (k : Nat) (o : Ro) (e : Ending) : Prop where
  out : ∃ (ra : Option Addr) (rn rc : Nat) (v : Value) (vs : List Value), e = .returned (.tuple #[.slice ra rn rc, .bool o.b.isSome, .int .i64 (o.e : Int)]) ∧ (o.b = none → ra = none ∧ rn = 0 ∧ rc = 0) ∧ (∀ x, o.b = some x → Rd w' ra rn rc x) ∧ (Q.put k o.L v vs).Ok w' B ∧ Kept w w' Q.own ∧ (∀ j, (Q.put k o.L v vs).own j → Q.own j ∨ w.heap.size ≤ j)
set_option maxHeartbeats 400000 in
theorem qtake_arg {Q : Qn} (h : Q.Ok w B) {x : Int} (hx : ¬ (0 ≤ x ∧ x < (Q.n : Int))) {ao : Option Addr} {n c : Nat} : Calls Tryd.prog 14 #[.pointer (some ⟨Q.b, 0, none⟩), .int .i64 x, .slice ao n c] w fun e w' => e = .returned (.tuple #[.slice none 0 0, .bool false, .int .i64 1]) ∧ w = w' := by
  have c0 : w.cell? ⟨Q.b, 0, none⟩ = some (.int .i64 (Q.n : Int)) := h.blk.cell 0 (by omega)
  by_cases h1 : x < 0
  · clear h hx
    go_enter Tryd.func14, Tryd.ntmps14
    go_wp2
    exact bodyPost_ret (v := .tuple #[.slice none 0 0, .bool false, .int .i64 1]) (by simp [results, Tryd.results14, go_sem]) rfl ⟨rfl, rfl⟩
  · have h2 : (Q.n : Int) ≤ x := by omega
    clear h hx
    go_enter Tryd.func14, Tryd.ntmps14
    go_wp2
    exact bodyPost_ret (v := .tuple #[.slice none 0 0, .bool false, .int .i64 1]) (by simp [results, Tryd.results14, go_sem]) rfl ⟨rfl, rfl⟩
set_option maxHeartbeats 400000 in
theorem qtake_form {Q : Qn} (h : Q.Ok w B) {k : Nat} (hk : k < Q.n) {ao : Option Addr} {n c : Nat} {bs : List Int} (hr : Rd w ao n c bs) (hn : n ≤ 140737488355328) (hf : form bs = false) : Calls Tryd.prog 14 #[.pointer (some ⟨Q.b, 0, none⟩), .int .i64 (k : Int), .slice ao n c] w fun e w' => e = .returned (.tuple #[.slice none 0 0, .bool false, .int .i64 91]) ∧ w = w' := by
  have c0 : w.cell? ⟨Q.b, 0, none⟩ = some (.int .i64 (Q.n : Int)) := h.blk.cell 0 (by omega)
  have HF : Hid (Calls Tryd.prog 23 #[.slice ao n c] w fun e w' => e = .returned (.bool false) ∧ w = w') := (show Calls _ _ _ _ _ from by rw [← hf]; exact rform_any hr hn)
  have i1 : ¬ (k : Int) < 0 := by omega
  have i2 : ¬ (Q.n : Int) ≤ (k : Int) := by omega
  clear h hr hf
  go_enter Tryd.func14, Tryd.ntmps14
  go_wp2_with (first | (go_at_call 23; refine HF.out.mono ?_; rintro e w' ⟨rfl, rfl⟩) | fail)
  exact bodyPost_ret (v := .tuple #[.slice none 0 0, .bool false, .int .i64 91]) (by simp [results, Tryd.results14, go_sem]) rfl ⟨rfl, rfl⟩
set_option maxHeartbeats 4000000 in
theorem qtake_new {Q : Qn} (h : Q.Ok w B) {k : Nat} (hk : k < Q.n) {ao : Option Addr} {n c : Nat} {bs : List Int} (hr : Rd w ao n c bs) (hf : form bs = true) (hB : B ≤ w.heap.size) (hin : 0 < n → In ao fun b => ¬ Q.own b) (hp0 : pl bs = 0) : Calls Tryd.prog 14 #[.pointer (some ⟨Q.b, 0, none⟩), .int .i64 (k : Int), .slice ao n c] w fun e w' => RkOut w w' B Q k (rtake (Q.L k) bs) e := by
  have hform := (form_iff bs).1 hf
  have hl := hr.len
  have hpc := hform.pc
  have h8 := hform.len
  have hn : n ≤ 256 := by omega
  have c0 : w.cell? ⟨Q.b, 0, none⟩ = some (.int .i64 (Q.n : Int)) := h.blk.cell 0 (by omega)
  have HF : Hid (Calls Tryd.prog 23 #[.slice ao n c] w fun e w' => e = .returned (.bool true) ∧ w = w') := (show Calls _ _ _ _ _ from by rw [← hf]; exact rform_any hr (by omega))
  have i1 : ¬ (k : Int) < 0 := by omega
  have i2 : ¬ (Q.n : Int) ≤ (k : Int) := by omega
  have n16 := h.n16
  have i3 : (k : Int) < 16 := by omega
  have i4 : (0 : Int) ≤ (k : Int) := by omega
  have hby := hr.by_
  have Hh : Hid (Q.Ok w B) := h
  have Hr : Hid (Rd w ao n c bs) := hr
  have b1 := sz_lt hby
  have b2 := pl_lt hby
  have b3 := sm_lt hby
  clear h hr
  go_enter Tryd.func14, Tryd.ntmps14
  go_wp2_with (first
    | (go_at_call 23; refine HF.out.mono ?_; rintro e w' ⟨rfl, rfl⟩)
    | (at_builtin; refine wpList_append_rd rfl _ _ rfl w.heap.size _ [] bs rfl (own_zero _ _) _ _ _ rfl Hr.out (by simp; omega) (Nat.le_refl _) ?_)
    | fail)
  intro y w1 ho1 hg1
  have hb1 : Below w.heap.size w w1 := (Below.refl _ _).grown hg1 (Nat.le_refl _) (fun q hq => by simp [Value.ownBlock] at hq)
  have HO1 : Hid (Own w1 w.heap.size y bs) := ho1
  have HB1 : Hid (Below w.heap.size w w1) := hb1
  have Hr1 : Hid (Rd w1 ao n c bs) := Hr.out.still hb1
  have Hok1 : Hid (Q.Ok w1 B) := Hh.out.still hb1
  obtain ⟨ya, yc, hye, _⟩ := ho1.shape
  subst hye
  rw [hl] at HO1 ⊢
  have V1 : Hid (Calls Tryd.prog 24 #[.slice ao n c, .int .i64 0, .int .i64 2] w1 fun e w' => e = .returned (.int .i64 (sz bs : Int)) ∧ w1 = w') := rvalue_any Hr1.out 0 2 (by omega) (by omega) (by omega) (by omega)
  have V2 : Hid (Calls Tryd.prog 24 #[.slice ao n c, .int .i64 2, .int .i64 4] w1 fun e w' => e = .returned (.int .i64 (pl bs : Int)) ∧ w1 = w') := rvalue_any Hr1.out 2 4 (by omega) (by omega) (by omega) (by omega)
  have V3 : Hid (∀ W', Below w1.heap.size w1 W' → Calls Tryd.prog 24 #[.slice ao n c, .int .i64 4, .int .i64 8] W' fun e w' => e = .returned (.int .i64 (sm bs : Int)) ∧ W' = w') := fun W' hb => rvalue_any (Hr1.out.still hb) 4 8 (by omega) (by omega) (by omega) (by omega)
  clear hb1 ho1 hg1 HF
  go_wp2_with fail
  refine V1.out.mono ?_
  rintro e w' ⟨rfl, rfl⟩
  go_wp2_with fail
  refine V2.out.mono ?_
  rintro e w' ⟨rfl, rfl⟩
  have c1 : w1.cell? ⟨Q.b, 1 + k, none⟩ = some (Q.v k) := by
    rw [Hok1.out.blk.cell (1 + k) (by omega)]
    unfold Qn.f
    rw [if_neg (by omega), show 1 + k - 1 = k by omega]
  obtain ⟨qa, qc, hv, hqc⟩ := (Hok1.out.row k).shape
  obtain ⟨ll, hll⟩ : ∃ ll, (Q.L k).length = ll := ⟨_, rfl⟩
  have hl16 : ll ≤ 17 := by rw [← hll]; exact Hh.out.len k
  rw [hll] at hv hqc
  rw [hv] at c1
  have Hv : Hid (Q.v k = .slice qa ll qc) := hv
  clear hv
  have hp0' : ((pl bs : Int) == 0) = true := by rw [beq_iff_eq]; omega
  obtain ⟨M0, hM0⟩ : ∃ M0 : List (List Int), rbeg (Q.L k) bs = M0 := ⟨_, rfl⟩
  have hM0e : M0 = [] := by rw [← hM0]; unfold rbeg; rw [if_pos hp0]
  have HM0 : Hid (∀ x ∈ M0, By x ∧ 8 ≤ x.length ∧ x.length ≤ 256) := fun x hx => by rw [hM0e] at hx; cases hx
  obtain ⟨vals0, hvals0⟩ : ∃ vals0 : List Value, [] = vals0 := ⟨_, rfl⟩
  have HRs : Hid (Rs w1 B (.slice none 0 0) vals0 M0) := (show Rs w1 B (.slice none 0 0) vals0 M0 from by rw [← hvals0, hM0e]; exact rs_zero _ _)
  have hM0l : M0.length ≤ 16 := by rw [hM0e]; simp
  have HRV : Hid (∀ j, (Value.slice none 0 0).ownBlock = some j → (Q.v k).ownBlock = some j) := fun j hj => by cases hj
  have Hrf : Hid (rfits (Q.L k) bs = true) := (show _ = _ from by unfold rfits; rw [decide_eq_true hp0]; rfl)
  have HW0 : Hid (∀ j u, u ∈ vals0 → u.ownBlock = some j → Q.own j ∨ w.heap.size ≤ j) := fun j u hu => by rw [← hvals0] at hu; cases hu
  have HM : Hid (rbeg (Q.L k) bs = M0) := hM0
  clear hp0 hM0 hM0e hvals0
  have Hel : Hid (∀ x ∈ M0 ++ [bs], By x ∧ 8 ≤ x.length ∧ x.length ≤ 256) := fun x hx => by
    rcases List.mem_append.1 hx with h1 | h1
    · exact HM0.out x h1
    · rw [List.mem_singleton.1 h1]
      exact ⟨hby, by omega, by omega⟩
  have hs1 := HB1.out.size
  go_wp2_with (first
    | (at_builtin; refine wl_pushQ rfl _ _ rfl w1 B _ vals0 M0 (.slice ya n yc) bs rfl HRs.out (own_lower' HO1.out hB) rfl rfl (by omega) (by omega) ?_)
    | fail)
  intro v2 w2 hrs2 hk2 hv2
  obtain ⟨a2, c2, hv2e, _⟩ := hrs2.shape
  obtain ⟨l2, hl2⟩ : ∃ l2, (M0 ++ [bs]).length = l2 := ⟨_, rfl⟩
  rw [hl2] at hv2e
  subst hv2e
  have HR2 : Hid (Rs w2 B (.slice a2 l2 c2) (vals0 ++ [.slice ya n yc]) (M0 ++ [bs])) := hrs2
  have HK2 : Hid (Kept w1 w2 (fun j => (Value.slice none 0 0).ownBlock = some j)) := hk2
  have HV2 : Hid (∀ j, (Value.slice a2 l2 c2).ownBlock = some j → (Value.slice none 0 0).ownBlock = some j ∨ w1.heap.size ≤ j) := hv2
  have Hbl : Hid (Calls Tryd.prog 25 #[.slice a2 l2 c2] w2 fun e w' => ∃ r, e = .returned r ∧ Own w' w2.heap.size r (cat (M0 ++ [bs])) ∧ Below w2.heap.size w2 w') := rblob_any hrs2 Hel.out (by rw [List.length_append]; simp; omega)
  clear hrs2 hk2 hv2
  have Hcat : Hid ((cat (M0 ++ [bs])).length ≤ 5000) := (show _ ≤ _ from by have h1 := cat_len_le (M0 ++ [bs]) (fun x hx => (Hel.out x hx).2.2); rw [List.length_append] at h1; simp at h1; omega)
  have HKb : Hid (Kept w1 w2 (fun j => (Q.v k).ownBlock = some j)) := HK2.out.mono fun j _ hj => HRV.out j hj
  have HVb : Hid (∀ j, (Value.slice a2 l2 c2).ownBlock = some j → (Q.v k).ownBlock = some j ∨ w1.heap.size ≤ j) := fun j hj => (HV2.out j hj).elim (fun h => .inl (HRV.out j h)) .inr
  have hs2 := HK2.out.size
  have hbl : Q.b < w1.heap.size := Hok1.out.blk.lt
  have HM1 : Hid (rtake (Q.L k) bs = if (cat (M0 ++ [bs])).length < sz bs then ⟨M0 ++ [bs], none, 0⟩ else if crc (cat (M0 ++ [bs])) = sm bs then ⟨[], some (cat (M0 ++ [bs])), 0⟩ else ⟨[], none, 91⟩) := (show _ = _ from by unfold rtake; rw [if_pos (by rw [hf, Hrf.out]; rfl), HM.out])
  have HCB : Hid (By (cat (M0 ++ [bs]))) := cat_by fun x hx => (Hel.out x hx).1
  obtain ⟨D, hD⟩ : ∃ D, cat (M0 ++ [bs]) = D := ⟨_, rfl⟩
  rw [hD] at Hbl Hcat HM1 HCB
  have hDl := Hcat.out
  clear V1 V2 HK2 HV2
  by_cases hw : D.length < sz bs
  · have hwi : (D.length : Int) < (sz bs : Int) := by omega
    have HE : Hid (rtake (Q.L k) bs = ⟨M0 ++ [bs], none, 0⟩) := (show _ = _ from by rw [HM1.out, if_pos hw])
    go_wp2_with fail
    refine Hbl.out.mono ?_
    rintro e w3 ⟨r3, rfl, ho3, hb3⟩
    obtain ⟨ra, rc, hre, _⟩ := ho3.shape
    subst hre
    have HK3 : Hid (Kept w1 w3 (fun j => (Q.v k).ownBlock = some j)) := HKb.out.step (Kept.ofBelow hb3 (fun _ => False)) (fun _ hh => hh.elim)
    have hb3s := hb3.size
    have HP := Hok1.out.put (s := k) HK3.out (HR2.out.still hb3) Hel.out (by rw [List.length_append]; simp; omega) HVb.out
    rw [show k + 1 = 1 + k by omega] at HP
    have hbq : Fb w3 Q.b 44 17 Q.f := Hok1.out.blk.keep HK3.out (fun e => Hok1.out.bne (s := k) (.inl e) rfl)
    have hc3 := hbq.cell (1 + k) (by omega)
    have hf3 := hbq.fz (1 + k)
    generalize Q.f (1 + k) = qy at hc3
    obtain ⟨w4, hw4⟩ : ∃ w4, w3.setCell ⟨Q.b, 1 + k, none⟩ (.slice a2 l2 c2) = w4 := ⟨_, rfl⟩
    rw [hw4] at HP
    have HP4 : Hid ((Q.put k (M0 ++ [bs]) (.slice a2 l2 c2) (vals0 ++ [.slice ya n yc])).Ok w4 B) := HP
    have HK4 : Hid (Kept w w4 Q.own) := (show Kept w w4 Q.own from by
      rw [← hw4]
      exact ((Kept.ofBelow HB1.out _).step HK3.out (fun j hj => .inl (.inr ⟨k, .inl hj⟩))).step (kset w3 Q.b (1 + k) _ (P := fun j => j = Q.b) rfl) (fun j hj => .inl (.inl hj)))
    have HOw : Hid (∀ j, (Q.put k (M0 ++ [bs]) (.slice a2 l2 c2) (vals0 ++ [.slice ya n yc])).own j → Q.own j ∨ w.heap.size ≤ j) := fun j hj => by
      rcases qown_put hj with h1 | h1 | ⟨u, hu, h1⟩
      · exact .inl h1
      · rcases HVb.out j h1 with h2 | h2
        · exact .inl (.inr ⟨k, .inl h2⟩)
        · exact .inr (by omega)
      · rcases List.mem_append.1 hu with h2 | h2
        · exact HW0.out j u h2 h1
        · rw [List.mem_singleton.1 h2] at h1
          exact .inr (HO1.out.lt j h1).1
    clear HP ho3 hb3 hbq HK3
    go_wp2
    refine bodyPost_ret (v := .tuple #[.slice none 0 0, .bool false, .int .i64 0]) (by simp [results, Tryd.results14, go_sem]) rfl ?_
    rw [HE.out]
    exact ⟨none, 0, 0, _, _, rfl, fun _ => ⟨rfl, rfl, rfl⟩, fun x hx => (by cases hx), HP4.out, HK4.out, HOw.out⟩
  · have hwi : ¬ (D.length : Int) < (sz bs : Int) := by omega
    go_wp2_with fail
    refine Hbl.out.mono ?_
    rintro e w3 ⟨r3, rfl, ho3, hb3⟩
    obtain ⟨ra, rc, hre, _⟩ := ho3.shape
    subst hre
    have HK3 : Hid (Kept w1 w3 (fun j => (Q.v k).ownBlock = some j)) := HKb.out.step (Kept.ofBelow hb3 (fun _ => False)) (fun _ hh => hh.elim)
    have hb3s := hb3.size
    have HP := Hok1.out.put (s := k) (L := []) (v := .slice none 0 0) (vs := []) HK3.out (rs_zero _ _) (fun x hx => by cases hx) (by simp) (fun j hj => by cases hj)
    rw [show k + 1 = 1 + k by omega] at HP
    have hbq : Fb w3 Q.b 44 17 Q.f := Hok1.out.blk.keep HK3.out (fun e => Hok1.out.bne (s := k) (.inl e) rfl)
    have hc3 := hbq.cell (1 + k) (by omega)
    have hf3 := hbq.fz (1 + k)
    generalize Q.f (1 + k) = qy at hc3
    obtain ⟨w4, hw4⟩ : ∃ w4, w3.setCell ⟨Q.b, 1 + k, none⟩ (.slice none 0 0) = w4 := ⟨_, rfl⟩
    have hk4 : Kept w3 w4 (fun j => j = Q.b) := by rw [← hw4]; exact kset w3 Q.b (1 + k) _ rfl
    rw [hw4] at HP
    have HP4 : Hid ((Q.put k [] (.slice none 0 0) []).Ok w4 B) := HP
    have hk34 : Kept w w4 Q.own := ((Kept.ofBelow HB1.out _).step HK3.out (fun j hj => .inl (.inr ⟨k, .inl hj⟩))).step hk4 (fun j hj => .inl (.inl hj))
    have HK4 : Hid (Kept w w4 Q.own) := hk34
    have HOw : Hid (∀ j, (Q.put k [] (.slice none 0 0) []).own j → Q.own j ∨ w.heap.size ≤ j) := fun j hj => by
      rcases qown_put hj with h1 | h1
      · exact .inl h1
      · exact (no_blks h1).elim
    have HRb : Hid (Rd w4 ra D.length rc D) := (show Rd w4 ra D.length rc D from (Own.keep ho3 hk4 (fun g hg e => by have := (ho3.lt g hg).1; omega)).rd HCB.out)
    have HSm : Hid (Calls Tryd.prog 26 #[.slice ra D.length rc] w4 fun e w' => e = .returned (.int .i64 ((crc D : Nat) : Int)) ∧ w4 = w') := rsum_any HRb.out (by omega)
    have V4 : Hid (Calls Tryd.prog 24 #[.slice ao n c, .int .i64 4, .int .i64 8] w4 fun e w' => e = .returned (.int .i64 (sm bs : Int)) ∧ w4 = w') := rvalue_any (Hr.out.keep hk34 (hin (by omega))) 4 8 (by omega) (by omega) (by omega) (by omega)
    clear HP ho3 hb3 hbq HK3 hk4 hk34
    by_cases hcr : crc D = sm bs
    · have hcb : (((crc D : Nat) : Int) != (sm bs : Int)) = false := by rw [hcr]; simp
      have HE : Hid (rtake (Q.L k) bs = ⟨[], some D, 0⟩) := (show _ = _ from by rw [HM1.out, if_neg hw, if_pos hcr])
      clear hcr
      generalize ((crc D : Nat) : Int) = cr at *
      go_wp2_with (first
        | (go_at_call 26; refine HSm.out.mono ?_; rintro e w' ⟨rfl, rfl⟩)
        | (go_at_call 24; refine V4.out.mono ?_; rintro e w' ⟨rfl, rfl⟩)
        | fail)
      refine bodyPost_ret (v := .tuple #[.slice ra D.length rc, .bool true, .int .i64 0]) (by simp [results, Tryd.results14, go_sem]) rfl ?_
      rw [HE.out]
      exact ⟨ra, D.length, rc, _, _, rfl, fun hh => (by cases hh), fun x hx => (by cases hx; exact HRb.out), HP4.out, HK4.out, HOw.out⟩
    · have hcb : (((crc D : Nat) : Int) != (sm bs : Int)) = true := by rw [bne_iff_ne]; omega
      have HE : Hid (rtake (Q.L k) bs = ⟨[], none, 91⟩) := (show _ = _ from by rw [HM1.out, if_neg hw, if_neg hcr])
      clear hcr
      generalize ((crc D : Nat) : Int) = cr at *
      go_wp2_with (first
        | (go_at_call 26; refine HSm.out.mono ?_; rintro e w' ⟨rfl, rfl⟩)
        | (go_at_call 24; refine V4.out.mono ?_; rintro e w' ⟨rfl, rfl⟩)
        | fail)
      refine bodyPost_ret (v := .tuple #[.slice none 0 0, .bool false, .int .i64 91]) (by simp [results, Tryd.results14, go_sem]) rfl ?_
      rw [HE.out]
      exact ⟨none, 0, 0, _, _, rfl, fun _ => ⟨rfl, rfl, rfl⟩, fun x hx => (by cases hx), HP4.out, HK4.out, HOw.out⟩
end
end Go.Proofs.YtmphabgpabbbjabDoor.Fg
