import Derived.Test.YtfbgoidhgkcgjaaAvd
namespace Go.Proofs.Ytfbgoidhgkcgjaa.Lo
open Go.RowKit Go.Maps
set_option linter.unusedVariables false
set_option linter.unusedSimpArgs false
section
variable {w w' W : World} {B : Nat} {P : Nat → Prop}
theorem fnd_take {l : List Mk} {j : Nat} (hj : j < l.length) (x : Int) : fnd (l.take (j + 1)) x = if (l.getD j mk0).k = 12 ∧ (l.getD j mk0).n = x ∧ fnd (l.take j) x = none then some (l.getD j mk0) else fnd (l.take j) x := by
  unfold fnd
  rw [List.take_add_one, List.getElem?_eq_getElem hj, List.getD_eq_getElem?_getD, List.getElem?_eq_getElem hj]
  simp only [Option.toList_some, Option.getD_some, List.find?_append]
  cases h : (l.take j).find? (fun m => m.k == 12 && m.n == x) with
  | some m => simp
  | none =>
    by_cases h1 : (l[j]).k = 12 ∧ (l[j]).n = x
    · simp [h1]
    · rw [if_neg (fun hh => h1 ⟨hh.1, hh.2.1⟩)]
      have : ((l[j]).k == 12 && (l[j]).n == x) = false := by
        rw [Bool.eq_false_iff]
        simpa using h1
      simp [this]
theorem fnd_skip {l : List Mk} {j : Nat} (hj : j < l.length) (hk : (l.getD j mk0).k ≠ 12) : fnd (l.take (j + 1)) = fnd (l.take j) := by
  funext x
  rw [fnd_take hj, if_neg (fun h => hk h.1)]
theorem fnd_old {l : List Mk} {j : Nat} (hj : j < l.length) {e0 : Mk} (hg : fnd (l.take j) (l.getD j mk0).n = some e0) : fnd (l.take (j + 1)) = fnd (l.take j) := by
  funext x
  rw [fnd_take hj]
  split
  · rename_i h
    rw [h.2.1] at hg
    rw [hg] at h
    simp at h
  · rfl
theorem fnd_new {l : List Mk} {j : Nat} (hj : j < l.length) (hk : (l.getD j mk0).k = 12) (hg : fnd (l.take j) (l.getD j mk0).n = none) : fnd (l.take (j + 1)) = updG (fnd (l.take j)) (l.getD j mk0).n (l.getD j mk0) := by
  funext x
  rw [fnd_take hj]
  unfold updG
  by_cases h : x = (l.getD j mk0).n
  · subst h
    rw [if_pos ⟨hk, rfl, hg⟩, if_pos rfl]
  · rw [if_neg (fun hh => h hh.2.1.symm), if_neg h]
def kN (l : List Mk) (k : Nat) : Nat := if (fnd l ((k : Int) + 1)).isSome then k + 1 else k
def slN : Value → Nat
  | .slice _ k _ => k
  | _ => 0
structure HiS (B : Nat) (w wr : World) (hb mb m : Nat) (l : List Mk) (k eb : Nat) (ca : Option Addr) (cc : Nat) : Prop where
  h : wr.heap[hb]? = some (.cells #[.map (some mb), .int .i64 (kN l k : Int)] 55 (0, 0))
  m : MpG wr mb m (fnd l)
  e : wr.heap[eb]? = some (.cells ((fnd l ((k : Int) + 1)).getD mk0).en.toArray 59 (0, 0))
  o : OwC wr B (.slice ca k cc) (hsl l k)
  b : Below w.heap.size w wr
  z : w.heap.size ≤ eb
theorem HiS.on {wr : World} {hb mb m : Nat} {l : List Mk} {k eb : Nat} {ca : Option Addr} {cc : Nat} (h : HiS B w wr hb mb m l k eb ca cc) (hx : Below wr.heap.size wr w') : HiS B w w' hb mb m l k eb ca cc :=
  ⟨blk_on hx h.h, h.m.still hx, blk_on hx h.e, Mb.own_still h.o hx, bst h.b hx, h.z⟩
theorem next_any (hb mb m k : Nat) (l : List Mk) (w : World) (hh : w.heap[hb]? = some (.cells #[.map (some mb), .int .i64 (k : Int)] 55 (0, 0))) (hM : MpG w mb m (fnd l)) (hk : k < 140737488355328) : Calls Try.prog 13 #[.pointer (some ⟨hb, 0, none⟩)] w fun r w' => r = .returned (.tuple #[.agg ((fnd l ((k : Int) + 1)).getD mk0).en.toArray, .bool (fnd l ((k : Int) + 1)).isSome]) ∧ w'.heap[hb]? = some (.cells #[.map (some mb), .int .i64 (kN l k : Int)] 55 (0, 0)) ∧ Mb.Kept w w' (fun q => q = hb) := by
  unfold kN
  rcases hg : fnd l ((k : Int) + 1) with _ | e0
  · refine (next_no hb mb m k (fnd l) w hh hM hk hg).mono ?_
    rintro r w' ⟨h1, h2⟩
    exact ⟨h1, blk_on h2 hh, Mb.Kept.ofBelow h2 _⟩
  · refine (next_yes hb mb m k (fnd l) e0 w hh hM hk hg).mono ?_
    rintro r w' ⟨h1, h2, h3⟩
    refine ⟨h1, ?_, h3⟩
    simpa using h2
theorem ld_en {e : Mk} {g : Nat} (h : w.heap[g]? = some (.cells e.en.toArray 59 (0, 0))) : w.rangeAt g 0 e.en := Ln.blk_range h
theorem getD_memM {l : List Mk} {i : Nat} (h : i < l.length) : l.getD i mk0 ∈ l := by
  rw [List.getD_eq_getElem?_getD, List.getElem?_eq_getElem h]
  exact List.getElem_mem _
set_option maxRecDepth 100000 in
set_option maxHeartbeats 8000000 in
theorem hist_any (la : Option Addr) (n lc : Nat) (l : List Mk) (w : World) (hr : MkR w la n l) (hok : ∀ e ∈ l, Okm e) (hn : n * 288 ≤ 140737488351232) : Calls Try.prog 5 #[.slice la n lc] w fun r w' => ∃ (k : Nat) (ca : Option Addr) (cc : Nat), r = .returned (.slice ca k cc) ∧ pres l k ∧ fnd l ((k : Int) + 1) = none ∧ OwC w' w.heap.size (.slice ca k cc) (hsl l k) ∧ Below w.heap.size w w' := by
  have hln : l.length = n := hr.len
  have HR : Hid (MkR w la n l) := hr
  have HOk : Hid (∀ e ∈ l, Okm e) := hok
  have HN : Hid (Calls Try.prog 11 #[] w fun r w' => ∃ mb, r = .returned (.agg #[.map (some mb), .int .i64 0]) ∧ MpE w' mb 0 (fun _ => none) ∧ w.heap.size ≤ mb ∧ Below w.heap.size w w') := newH_any w
  clear hr hok
  go_enter Try.func5, Try.ntmps5
  go_wp2_with fail
  refine HN.out.mono ?_
  rintro e w1 ⟨mb, rfl, hm1, hmb, hb1⟩
  clear HN
  go_wp2_with (first | (refine wl_allocZ rfl 55 rfl zHi ?_) | fail)
  intro W2 k2 b2 s2
  go_wp2_with (first | (refine Ln.at_store 55 _ _ rfl ?_; refine wl_storeZ rfl 55 _ _ rfl (L := [.map (some mb), .int .i64 0]) rfl rfl k2 iHi rfl (one2 _ _) ?_) | fail)
  intro W3 k3 kk3
  have hm3 : MpG W3 mb 0 (fnd (l.take 0)) := by
    have h1 : MpE W3 mb 0 (fun _ => none) := (hm1.still b2).keep kk3 (fun e => by have e' : mb = w1.heap.size := e; have := hm1.lt; omega)
    have : fV (fnd (l.take 0)) = fun _ => none := by funext x; simp [fV, fnd]
    unfold MpG
    rw [this]
    exact h1
  have hmlt := hm1.lt
  have hb3 : Below w.heap.size w W3 := (hb1.trans (b2.mono hb1.size)).trans (kn kk3 hb1.size (by have := hb1.size; omega))
  have HS3 : Hid (W3.heap[w1.heap.size]? = some (.cells #[.map (some mb), .int .i64 0] 55 (0, 0)) ∧ MpG W3 mb 0 (fnd (l.take 0)) ∧ Below w.heap.size w W3) := (show _ ∧ _ from ⟨k3, hm3, hb3⟩)
  have hhb : w.heap.size ≤ w1.heap.size := hb1.size
  have hne : w1.heap.size ≠ mb := by omega
  clear k2 b2 s2 k3 kk3 hm3 hb3 hm1 hb1 hmlt
  generalize w1.heap.size = hb at *
  go_wp2_with fail
  go_loopw [12] (fun x wr => ∃ (j m : Nat), j ≤ n ∧ m ≤ j ∧ x = .int .i64 j ∧ Hid (wr.heap[hb]? = some (.cells #[.map (some mb), .int .i64 0] 55 (0, 0)) ∧ MpG wr mb m (fnd (l.take j)) ∧ Below w.heap.size w wr)) (fun x _ => n - (intOf x).toNat)
  case atStart => exact ⟨0, 0, Nat.zero_le _, Nat.le_refl _, rfl, HS3⟩
  case round =>
    obtain ⟨j, m, hj, hmj, rfl, hS⟩ := hrel
    by_cases hjn : j < n
    · have j1 : (0 : Int) ≤ (j : Int) := Int.natCast_nonneg _
      have j3 : (j : Int) < (n : Int) := by omega
      rcases HR.out.row with h0 | ⟨eb, eo, hla, hrow⟩
      · omega
      subst hla
      have HEV : Hid (wr.rangeAt eb (eo + j * 26) (l.getD j mk0).cs) := (show wr.rangeAt _ _ _ from range_on (hrow j hjn) hS.out.2.2)
      have hoe := HOk.out _ (getD_memM (l := l) (i := j) (by omega))
      obtain ⟨e, he⟩ : ∃ e, l.getD j mk0 = e := ⟨_, rfl⟩
      rw [he] at HEV hoe
      clear hrow
      go_wp2_with (first | (refine Ln.at_load 50 (.tmp 14) rfl ?_; refine Ln.load_mid 50 (.tmp 14) HEV.out _ Try.underlying50 rfl (iMk e) rfl rfl rfl ?_) | (refine wl_allocZ rfl 50 rfl zMk ?_) | fail)
      intro X1 k1 b1 s1
      go_wp2_with (first | (refine Ln.at_store 50 _ _ rfl ?_; refine wl_storeZ rfl 50 _ _ rfl (L := e.cs) rfl rfl k1 (iMk e) rfl (Mk.one e) ?_) | fail)
      intro X2 k2 kk2
      have hbx : Below wr.heap.size wr X2 := b1.trans (kn kk2 (Nat.le_refl _) b1.size)
      have c1 : X2.cell? ⟨wr.heap.size, 1, none⟩ = some (.int .i64 e.k) := blk_cell k2 1
      have HX : Hid (X2.rangeAt wr.heap.size 0 e.cs) := Ln.blk_range k2
      have HS2 : Hid (X2.heap[hb]? = some (.cells #[.map (some mb), .int .i64 0] 55 (0, 0)) ∧ MpG X2 mb m (fnd (l.take j)) ∧ Below w.heap.size w X2) := (show _ ∧ _ from ⟨blk_on hbx hS.out.1, hS.out.2.1.still hbx, hS.out.2.2.trans (hbx.mono hS.out.2.2.size)⟩)
      clear k1 b1 s1 k2 kk2 hbx HEV hS
      generalize wr.heap.size = ab at *
      by_cases hk : e.k = 12
      · have hk' : (e.k == 12) = true := by simpa using hk
        have h0 : X2.cell? ⟨hb, 0, none⟩ = some (.map (some mb)) := blk_cell HS2.out.1 0
        rcases hg : fnd (l.take j) e.n with _ | e0
        · have HA : Hid (Calls Try.prog 12 #[.pointer (some ⟨hb, 0, none⟩), .agg e.cs.toArray] X2 fun r w' => r = .returned (.tuple #[]) ∧ MpG w' mb (m + 1) (updG (fnd (l.take j)) e.n e) ∧ Mb.Kept X2 w' (fun k => k = mb)) := add_no hb mb m _ e X2 h0 HS2.out.2.1 (by omega) hoe.n hne hg
          rw [← he] at hg hk
          have hfn := fnd_new (by omega) hk hg
          rw [he] at hfn
          clear hk hg h0
          go_wp2_with (first | (refine Ln.at_load 50 (.tmp 5) rfl ?_; refine Ln.load_mid 50 (.tmp 5) HX.out _ Try.underlying50 rfl (iMk e) rfl rfl rfl ?_) | fail)
          refine HA.out.mono ?_
          rintro r5 X5 ⟨rfl, hm5, kk5⟩
          have HS5 : Hid (X5.heap[hb]? = some (.cells #[.map (some mb), .int .i64 0] 55 (0, 0)) ∧ MpG X5 mb (m + 1) (fnd (l.take (j + 1))) ∧ Below w.heap.size w X5) := (show _ ∧ _ from ⟨kk5.obj HS2.out.1 (fun e => hne e), by rw [hfn]; exact hm5, HS2.out.2.2.trans (kn kk5 hmb HS2.out.2.2.size)⟩)
          clear hm5 kk5 HS2 HX HA c1 hfn
          go_wp2_with fail
          go_roundw
          case rel => exact ⟨j + 1, m + 1, by omega, by omega, by go_num, HS5⟩
          case measure => simp [intOf]; omega
        · have HA : Hid (Calls Try.prog 12 #[.pointer (some ⟨hb, 0, none⟩), .agg e.cs.toArray] X2 fun r w' => r = .returned (.tuple #[]) ∧ Below X2.heap.size X2 w') := add_yes hb mb m _ e e0 X2 h0 HS2.out.2.1 (by omega) hoe.n hne hg
          rw [← he] at hg
          have hfn := fnd_old (by omega) hg
          clear hg h0
          go_wp2_with (first | (refine Ln.at_load 50 (.tmp 5) rfl ?_; refine Ln.load_mid 50 (.tmp 5) HX.out _ Try.underlying50 rfl (iMk e) rfl rfl rfl ?_) | fail)
          refine HA.out.mono ?_
          rintro r5 X5 ⟨rfl, hb5⟩
          have HS5 : Hid (X5.heap[hb]? = some (.cells #[.map (some mb), .int .i64 0] 55 (0, 0)) ∧ MpG X5 mb m (fnd (l.take (j + 1))) ∧ Below w.heap.size w X5) := (show _ ∧ _ from ⟨blk_on hb5 HS2.out.1, by rw [hfn]; exact HS2.out.2.1.still hb5, bst HS2.out.2.2 hb5⟩)
          clear hb5 HS2 HX HA c1 hfn
          go_wp2_with fail
          go_roundw
          case rel => exact ⟨j + 1, m, by omega, by omega, by go_num, HS5⟩
          case measure => simp [intOf]; omega
      · have hk' : (e.k == 12) = false := by simpa using hk
        have HS5 : Hid (X2.heap[hb]? = some (.cells #[.map (some mb), .int .i64 0] 55 (0, 0)) ∧ MpG X2 mb m (fnd (l.take (j + 1))) ∧ Below w.heap.size w X2) := (show _ ∧ _ from ⟨HS2.out.1, by rw [fnd_skip (by omega) (by rw [he]; exact hk)]; exact HS2.out.2.1, HS2.out.2.2⟩)
        clear HS2 HX
        go_wp2_with fail
        go_roundw
        case rel => exact ⟨j + 1, m, by omega, by omega, by go_num, HS5⟩
        case measure => simp [intOf]; omega
    · have hjN : j = n := by omega
      subst hjN
      have htk : l.take j = l := List.take_of_length_le (by omega)
      rw [htk] at hS
      have HNx : Hid (∀ (X : World) (k : Nat), X.heap[hb]? = some (.cells #[.map (some mb), .int .i64 (k : Int)] 55 (0, 0)) → MpG X mb m (fnd l) → k ≤ j → Calls Try.prog 13 #[.pointer (some ⟨hb, 0, none⟩)] X fun r w' => r = .returned (.tuple #[.agg ((fnd l ((k : Int) + 1)).getD mk0).en.toArray, .bool (fnd l ((k : Int) + 1)).isSome]) ∧ w'.heap[hb]? = some (.cells #[.map (some mb), .int .i64 (kN l k : Int)] 55 (0, 0)) ∧ Mb.Kept X w' (fun q => q = hb)) := (show ∀ (X : World) (k : Nat), _ from fun X k h1 h2 h3 => next_any hb mb m k l X h1 h2 (by omega))
      have HC0 : Hid (Calls Try.prog 13 #[.pointer (some ⟨hb, 0, none⟩)] wr fun r w' => r = .returned (.tuple #[.agg ((fnd l (((0 : Nat) : Int) + 1)).getD mk0).en.toArray, .bool (fnd l (((0 : Nat) : Int) + 1)).isSome]) ∧ w'.heap[hb]? = some (.cells #[.map (some mb), .int .i64 (kN l 0 : Int)] 55 (0, 0)) ∧ Mb.Kept wr w' (fun q => q = hb)) := HNx.out wr 0 hS.out.1 hS.out.2.1 (Nat.zero_le _)
      go_wp2_with fail
      refine HC0.out.mono ?_
      rintro r0 Y0 ⟨rfl, hh0, kk0⟩
      have hm0 := hS.out.2.1.keep kk0 (fun e => hne e.symm)
      have hb0 : Below w.heap.size w Y0 := hS.out.2.2.trans (kn kk0 hhb hS.out.2.2.size)
      clear HC0 hS kk0
      go_wp2_with (first | (refine wl_allocZ rfl 59 rfl zEn ?_) | fail)
      intro Y1 k1 b1 s1
      go_wp2_with (first | (refine Ln.at_store 59 _ _ rfl ?_; refine wl_storeZ rfl 59 _ _ rfl (L := ((fnd l (((0 : Nat) : Int) + 1)).getD mk0).en) rfl rfl k1 (iEn _) rfl (Mk.one' _) ?_) | fail)
      intro Y2 k2 kk2
      have hb2 : Below Y0.heap.size Y0 Y2 := b1.trans (kn kk2 (Nat.le_refl _) b1.size)
      have HI : Hid (HiS w.heap.size w Y2 hb mb m l 0 Y0.heap.size none 0) := (show HiS _ _ _ _ _ _ _ _ _ _ _ from ⟨blk_on hb2 hh0, hm0.still hb2, k2, ow_nil _ _ _ _, bst hb0 hb2, hb0.size⟩)
      have hpr0 : pres l 0 := fun i hi => by omega
      clear hh0 hm0 hb0 k1 b1 s1 k2 kk2 hb2
      generalize Y0.heap.size = eb0 at *
      go_wp2_with fail
      go_loopw [6, 7, 8] (fun v6 v7 v8 wr => ∃ (k : Nat) (ca : Option Addr) (cc eb : Nat), Hid (pres l k) ∧ v6 = .slice ca k cc ∧ v7 = .pointer (some ⟨eb, 0, none⟩) ∧ v8 = .bool (fnd l ((k : Int) + 1)).isSome ∧ Hid (HiS w.heap.size w wr hb mb m l k eb ca cc)) (fun v6 _ _ _ => j - slN v6)
      case atStart => exact ⟨0, none, 0, eb0, hpr0, rfl, rfl, rfl, HI⟩
      case round =>
        obtain ⟨k, ca, cc, eb, hpr, rfl, rfl, rfl, hI⟩ := hrel
        rcases hg : fnd l ((k : Int) + 1) with _ | e0
        · have HFi : Hid (pres l k ∧ fnd l ((k : Int) + 1) = none ∧ OwC wr w.heap.size (.slice ca k cc) (hsl l k) ∧ Below w.heap.size w wr) := (show _ ∧ _ from ⟨hpr.out, hg, hI.out.o, hI.out.b⟩)
          clear hg hI hpr
          go_wp2_with fail
          go_ret
          exact ⟨k, ca, cc, rfl, HFi.out.1, HFi.out.2.1, HFi.out.2.2.1, HFi.out.2.2.2⟩
        · have hp1 : pres l (k + 1) := pres_succ hpr.out (by rw [hg]; rfl)
          have hk1 : k + 1 ≤ j := by have := pres_le hp1; omega
          have hoe := HOk.out e0 (fnd_mem hg)
          have hcl : hsl l (k + 1) = hsl l k ++ [e0.cm] := by rw [hsl_succ, hg]; rfl
          have hIe : wr.heap[eb]? = some (.cells e0.en.toArray 59 (0, 0)) := by have := hI.out.e; rw [hg] at this; exact this
          have HRc : Hid (wr.rangeAt eb 0 e0.cm.cs) := (show World.rangeAt _ _ _ _ from fun i v hv => Ln.blk_range hIe i v (by
            have hi : i < 7 := by have := (List.getElem?_eq_some_iff.1 hv).1; rwa [Cm.len] at this
            rw [← hv]
            match i, hi with
            | 0, _ | 1, _ | 2, _ | 3, _ | 4, _ | 5, _ | 6, _ => rfl))
          have HIe : Hid (wr.heap[eb]? = some (.cells e0.en.toArray 59 (0, 0))) := hIe
          have HCp : Hid (Calls Try.prog 14 #[.agg e0.cm.cs.toArray] wr fun r w' => r = .returned (.agg e0.cm.cs.toArray) ∧ Below wr.heap.size wr w') := Mh.acopied_any e0.cm hoe.k hoe.v hoe.o
          clear hIe hoe
          go_wp2_with (first | (refine Ln.at_load 38 (.tmp 32) rfl ?_; refine Ln.load_mid 38 (.tmp 32) HRc.out _ Try.underlying38 rfl (iCm e0.cm) rfl rfl rfl ?_) | fail)
          refine HCp.out.mono ?_
          rintro r3 X3 ⟨rfl, hb3⟩
          have HI3 : Hid (HiS w.heap.size w X3 hb mb m l k eb ca cc) := (show HiS _ _ _ _ _ _ _ _ _ _ _ from hI.out.on hb3)
          have HIe3 : Hid (X3.heap[eb]? = some (.cells e0.en.toArray 59 (0, 0))) := blk_on hb3 HIe.out
          have hlc : (hsl l k).length = k := hsl_len l k
          have hsz3 : w.heap.size ≤ X3.heap.size := HI3.out.b.size
          clear hb3 HCp HRc hI HIe
          go_wp2_with (first
            | (refine Go.Great.wpList_buildSliceTo rfl 28 38 1 _ rfl X3.heap.size rfl _ rfl Try.underlying28 e0.cm.cs.toArray (bsl_eq (by kernel_rfl) (builtCs _)) ?_)
            | (at_builtin; refine app_C rfl _ _ rfl rfl HI3.out.o e0.cm rfl rfl (by rw [hlc]; omega) hsz3 ?_)
            | fail)
          intro v6 X4 o4 kk4 _
          obtain ⟨ca4, cc4, hv6⟩ := ow_shape o4.out
          rw [List.length_append, hlc] at hv6
          have hv6' : v6 = .slice ca4 (k + 1) cc4 := hv6
          clear hv6
          subst hv6'
          have ho4 : OwC X4 w.heap.size (.slice ca4 (k + 1) cc4) (hsl l (k + 1)) := by rw [hcl]; exact o4.out
          have hh4 := blk_app HI3.out.h HI3.out.o (by decide) kk4.out
          have he4 := blk_app HIe3.out HI3.out.o (by decide) kk4.out
          have hm4 := HI3.out.m.keep kk4.out (fun e => by
            obtain ⟨C, hC⟩ := Ln.own_ty HI3.out.o e
            exact HI3.out.m.ne hC rfl)
          have hb4 : Below w.heap.size w X4 := HI3.out.b.trans (kk4.out.below hsz3 (fun q hq e => by have := (World.ownsRow.lt HI3.out.o q e).1; omega))
          have hkN : kN l k = k + 1 := by unfold kN; rw [hg]; rfl
          rw [hkN] at hh4
          have HRe : Hid (X4.rangeAt eb 0 e0.en) := Ln.blk_range he4
          have HZ4 : Hid (X4.heap[hb]? = some (.cells #[.map (some mb), .int .i64 ((k + 1 : Nat) : Int)] 55 (0, 0)) ∧ MpG X4 mb m (fnd l) ∧ OwC X4 w.heap.size (.slice ca4 (k + 1) cc4) (hsl l (k + 1)) ∧ Below w.heap.size w X4) := (show _ ∧ _ from ⟨hh4, hm4, ho4, hb4⟩)
          clear ho4 hh4 he4 hm4 hb4 hkN o4 kk4 HI3 HIe3 hlc hcl hg hsz3
          go_wp2_with (first | (refine Ln.at_load 59 (.tmp 7) rfl ?_; refine Ln.load_mid 59 (.tmp 7) HRe.out _ Try.underlying59 rfl (iEn e0) rfl rfl rfl ?_) | (refine wl_allocZ rfl 59 rfl zEn ?_) | fail)
          intro X5 k5 b5 s5
          go_wp2_with (first | (refine Ln.at_store 59 _ _ rfl ?_; refine wl_storeZ rfl 59 _ _ rfl (L := e0.en) rfl rfl k5 (iEn _) rfl (Mk.one' _) ?_) | fail)
          intro X6 k6 kk6
          have hb6 : Below X4.heap.size X4 X6 := b5.trans (kn kk6 (Nat.le_refl _) b5.size)
          have HC6 : Hid (Calls Try.prog 13 #[.pointer (some ⟨hb, 0, none⟩)] X6 fun r w' => r = .returned (.tuple #[.agg ((fnd l (((k + 1 : Nat) : Int) + 1)).getD mk0).en.toArray, .bool (fnd l (((k + 1 : Nat) : Int) + 1)).isSome]) ∧ w'.heap[hb]? = some (.cells #[.map (some mb), .int .i64 (kN l (k + 1) : Int)] 55 (0, 0)) ∧ Mb.Kept X6 w' (fun q => q = hb)) := HNx.out X6 (k + 1) (blk_on hb6 HZ4.out.1) (HZ4.out.2.1.still hb6) hk1
          have hnb : X4.heap.size ≠ hb := by have := Mb.lt_heap HZ4.out.1; omega
          have HK6 : Hid (X6.heap[X4.heap.size]? = some (.cells e0.en.toArray 59 (0, 0))) := k6
          have HZ6 : Hid (X6.heap[hb]? = some (.cells #[.map (some mb), .int .i64 ((k + 1 : Nat) : Int)] 55 (0, 0)) ∧ MpG X6 mb m (fnd l) ∧ OwC X6 w.heap.size (.slice ca4 (k + 1) cc4) (hsl l (k + 1)) ∧ Below w.heap.size w X6) := (show _ ∧ _ from ⟨blk_on hb6 HZ4.out.1, HZ4.out.2.1.still hb6, Mb.own_still HZ4.out.2.2.1 hb6, bst HZ4.out.2.2.2 hb6⟩)
          have hxs : w.heap.size ≤ X4.heap.size := HZ4.out.2.2.2.size
          clear k5 b5 s5 k6 kk6 hb6 HZ4 HRe
          generalize X4.heap.size = eb5 at *
          go_wp2_with fail
          refine HC6.out.mono ?_
          rintro r7 X7 ⟨rfl, hh7, kk7⟩
          have hk7 := kk7.obj HK6.out (fun e => hnb e)
          have hm7 := HZ6.out.2.1.keep kk7 (fun e => hne e.symm)
          have ho7 := ow_ne HZ6.out.2.2.1 HZ6.out.1 (by decide) kk7
          have hb7 : Below w.heap.size w X7 := HZ6.out.2.2.2.trans (kn kk7 hhb HZ6.out.2.2.2.size)
          clear HC6 HK6 HZ6 kk7
          go_wp2_with (first | (refine Ln.at_store 59 _ _ rfl ?_; refine wl_storeZ rfl 59 _ _ rfl (L := ((fnd l (((k + 1 : Nat) : Int) + 1)).getD mk0).en) rfl rfl hk7 (iEn _) rfl (Mk.one' _) ?_) | fail)
          intro X8 k8 kk8
          have HI8 : Hid (HiS w.heap.size w X8 hb mb m l (k + 1) eb5 ca4 cc4) := (show HiS _ _ _ _ _ _ _ _ _ _ _ from ⟨kk8.obj hh7 (fun e => hnb e.symm), hm7.keep kk8 (fun e => hm7.ne hk7 e.symm), k8, ow_ne ho7 hk7 (by decide) kk8, hb7.trans (kn kk8 hxs hb7.size), hxs⟩)
          have HPr : Hid (pres l (k + 1)) := hp1
          clear hk7 hm7 ho7 hb7 k8 kk8 hh7 hp1 hpr
          go_wp2_with fail
          go_roundw
          case rel => exact ⟨k + 1, ca4, cc4, eb5, HPr, rfl, rfl, rfl, HI8⟩
          case measure => simp [slN]; omega
end
end Go.Proofs.Ytfbgoidhgkcgjaa.Lo
