import Derived.Test.YtihcaopcfhbofaaX50
import Derived.Test.YtihcaopcfhbofaaX48
import Derived.Test.YtihcaopcfhbofaaX39
import Derived.Test.YtihcaopcfhbofaaX37
import Derived.Test.YtihcaopcfhbofaaX47
import Derived.Test.YtihcaopcfhbofaaX35
import Derived.Test.YtihcaopcfhbofaaX44
import Derived.Test.YtihcaopcfhbofaaX45
import Derived.Test.YtihcaopcfhbofaaX46
import Derived.Test.YtihcaopcfhbofaaX40
import Derived.Test.YtihcaopcfhbofaaX31
import Derived.Test.YtihcaopcfhbofaaX30
namespace Go.Proofs.Ytihcaopcfhbofaa.Fm
open Go.RowKit Go.Maps Mb
set_option linter.unusedVariables false
set_option maxRecDepth 100000
set_option linter.unusedSimpArgs false
section
variable {w w' W : World} {B : Nat}
theorem MoT.z {t : Nat} {v : Value} {out : List Dx} (h : MoT t B w v out) {i : Nat} (hi : i < out.length) : (out.getD i dx0).ba = none → (out.getD i dx0).bs.length = 0 ∧ (out.getD i dx0).bc = 0 := fun hn => by
  have h1 := h.el i hi
  rcases own_two h1 with ⟨e, h0⟩ | ⟨g, c, e, _⟩
  · unfold Dx.v at e
    simp only [Value.slice.injEq] at e
    exact ⟨h0, e.2.2⟩
  · unfold Dx.v at e
    rw [hn] at e
    simp at e
structure FinS (Vz : World) (n ga ca go co dn : Nat) (da : Option Addr) (dc : Nat) (a3 : Option Addr) (wn c3 : Nat) (dd sf qq : Int) (mt : List Dx) (cs : List Co) (oc : List Value) (oco : Co) (wh : List Int) : Prop where
  cut : ∀ X, Below Vz.heap.size Vz X → Calls Try.prog 7 #[.slice (some ⟨ga, 0, none⟩) n ca] X (CutO cs X)
  lk : ∀ X, Below Vz.heap.size Vz X → Calls Try.prog 8 #[.int .i64 dd, .agg oc.toArray, .slice (some ⟨ga, 0, none⟩) n ca] X fun e w' => ∃ a c l E, e = .returned (.tuple #[.slice a (l : List (Int × Int)).length c, .int .i64 E]) ∧ LkS cs oco dd E l ∧ w'.ownsRow X.heap.size 70 2 (.slice a l.length c) l.length (slCells l) ∧ Below X.heap.size X w'
  du : ∀ X, Below Vz.heap.size Vz X → Calls Try.prog 9 #[.int .i64 sf, .int .i64 qq, .slice a3 wn c3, .slice (some ⟨ga, 0, none⟩) n ca] X fun e w' => ∃ a c l E, e = .returned (.tuple #[.slice a (l : List (Int × Int)).length c, .int .i64 E]) ∧ DuS cs wh sf qq E l ∧ w'.ownsRow X.heap.size 70 2 (.slice a l.length c) l.length (slCells l) ∧ Below X.heap.size X w'
  rs : ∀ X, Below Vz.heap.size Vz X → Calls Try.prog 10 #[.int .i64 dd, .slice (some ⟨ga, 0, none⟩) n ca, .slice da dn dc] X fun e w' => ∃ a c out E, e = .returned (.tuple #[.slice a (out : List Dx).length c, .int .i64 E]) ∧ RsS cs mt dd E out ∧ MoT 78 X.heap.size w' (.slice a out.length c) out ∧ Below X.heap.size X w'
  my : ∀ X, Below Vz.heap.size Vz X → Calls Try.prog 4 #[.slice (some ⟨ga, 0, none⟩) n ca] X fun e w' => ∃ a c xs, e = .returned (.slice a n c) ∧ cos xs = cs ∧ RdFs w' a xs ∧ Below X.heap.size X w'
  on : ∀ X, Below Vz.heap.size Vz X → Calls Try.prog 13 #[.agg oc.toArray] X fun e w' => ∃ x : Fl, e = .returned (.agg x.cs.toArray) ∧ x.c = oco ∧ x.Rd w' ∧ Below X.heap.size X w'
  qc : ∀ X a c xs, cos xs = cs → RdFs X a xs → Calls Try.prog 11 #[.slice a n c] X (CutO cs X)
  ql : ∀ X a c xs x, cos xs = cs → RdFs X a xs → Fl.Rd x X → x.c = oco → Calls Try.prog 12 #[.int .i64 dd, .agg x.cs.toArray, .slice a n c] X fun e w' => ∃ a c l E, e = .returned (.tuple #[.slice a (l : List (Int × Int)).length c, .int .i64 E]) ∧ LkS cs oco dd E l ∧ w'.ownsRow X.heap.size 70 2 (.slice a l.length c) l.length (slCells l) ∧ Below X.heap.size X w'
  qd : ∀ X b wcc a c xs, RdI X b wh → cos xs = cs → RdFs X a xs → Calls Try.prog 14 #[.int .i64 sf, .int .i64 qq, .slice b wn wcc, .slice a n c] X fun e w' => ∃ a c l E, e = .returned (.tuple #[.slice a (l : List (Int × Int)).length c, .int .i64 E]) ∧ DuS cs wh sf qq E l ∧ w'.ownsRow X.heap.size 70 2 (.slice a l.length c) l.length (slCells l) ∧ Below X.heap.size X w'
  dt : ∀ X, Below Vz.heap.size Vz X → Calls Try.prog 5 #[.slice da dn dc] X fun e w' => ∃ a c dm, e = .returned (.slice a dn c) ∧ MoT 37 X.heap.size w' (.slice a dn c) dm ∧ Al dm mt ∧ Below X.heap.size X w'
  qr : ∀ X a c xs b c2 dm B2, cos xs = cs → RdFs X a xs → MoT 37 B2 X (.slice b dn c2) dm → Al dm mt → Calls Try.prog 15 #[.int .i64 dd, .slice a n c, .slice b dn c2] X fun e w' => ∃ a c out E, e = .returned (.tuple #[.slice a (out : List Dx).length c, .int .i64 E]) ∧ RsS cs mt dd E out ∧ MoT 78 X.heap.size w' (.slice a out.length c) out ∧ Below X.heap.size X w'
  hwz : a3 = none → wn = 0 ∧ c3 = 0
  wl : wh.length = wn
  wn20 : wn ≤ 1048576
  ocl : oc.length = 7
  at_ : ∀ X, Below Vz.heap.size Vz X → X.rangeAt go 0 oc ∧ RdI X a3 wh
set_option maxHeartbeats 4000000 in
theorem PlS.fin {V Vz : World} {n ga ca go co dn : Nat} {da a3 : Option Addr} {dc wn c3 : Nat} {L3 : List Fl} {mt : List Dx} (h : PlS V B n ga ca go co dn (.slice da dn dc) Vz L3 mt (.slice a3 wn c3)) (hn20 : n ≤ 1048576) (hdn : dn ≤ 1048576) (dd sf qq : Int) : ∃ cs oc oco wh, FinS Vz n ga ca go co dn da dc a3 wn c3 dd sf qq mt cs oc oco wh := by
  obtain ⟨hF, hFl, hFi⟩ := h.all
  generalize L3.take n = fl at hF hFl hFi
  obtain ⟨hO1, hO2⟩ := h.one
  generalize L3.getD n fl0 = ow at hO1 hO2
  obtain ⟨wa9, wc9, wh, hwv, hwr, hwn9, hwo⟩ := h.wh
  have hw3 : a3 = wa9 ∧ wn = wh.length ∧ c3 = wc9 := by simpa using hwv
  obtain ⟨e1, hwl, -⟩ := hw3
  rw [← e1] at hwr
  rw [← hwl] at hwo
  have HwZ : a3 = none → wn = 0 ∧ c3 = 0 := fun e => by
    rcases own_nb hwo with ⟨_, h1, h2⟩ | ⟨g, h1, _⟩
    · exact ⟨h1, h2⟩
    · rw [e] at h1; cases h1
  have HML : Hid (mt.length = dn) := h.g.len
  have HMR : Hid (RdDs Vz da mt) := h.g.rd
  have HMZ : Hid (∀ i, i < mt.length → ((mt.getD i dx0).ba = none → (mt.getD i dx0).bs.length = 0 ∧ (mt.getD i dx0).bc = 0) ∧ (mt.getD i dx0).bs.length ≤ 1048576) := h.g.bz
  have HMG : Hid (∀ i, i < mt.length → i64B (mt.getD i dx0).s.1 ∧ i64B (mt.getD i dx0).s.2) := fun i hh => (h.g.g i (by rw [← HML.out]; exact hh)).1
  have hcap : n ≤ ca ∧ ca ≤ 9223372036854775807 := by
    rcases own_nb h.ra with ⟨e, _⟩ | ⟨g, _, h⟩
    · cases e
    · exact h
  have HDn : Hid (dn ≤ 1048576) := hdn
  have HF : Hid (RdFs Vz (some ⟨ga, 0, none⟩) fl) := hF
  clear h hwv e1 hwo
  refine ⟨cos fl, ow.cs, ow.c, wh, ⟨?cut, ?lk, ?du, ?rs, ?my, ?on, ?qc, ?ql, ?qd, ?dt, ?qr, HwZ, hwl.symm, by rw [hwl]; exact hwn9, rfl, fun X hX => ⟨range_on hO1 hX, hwr.still hX⟩⟩⟩
  case cut =>
    exact fun X hX => by
        have := cut_any (cp := ca) (HF.out.still hX) (by rw [hFl]; omega)
        rwa [hFl] at this
  case lk =>
    exact fun X hX => by
        have := lacks_any (cp := ca) (HF.out.still hX) (hO2.still hX).rd (by rw [hFl]; exact hcap.1) hcap.2 (by rw [hFl]; exact hn20) dd
        rwa [hFl] at this
  case du =>
    exact fun X hX => by
        have := duty_any (wcp := c3) (cp := ca) (hwr.still hX) hwn9 (HF.out.still hX) (by rw [hFl]; exact hn20) sf qq
        rwa [hFl, ← hwl] at this
  case rs =>
    exact fun X hX => by
        have := rest_any (cp := ca) (mc := dc) (HF.out.still hX) (by rw [hFl]; exact hn20) (HMR.out.still hX) (by rw [HML.out]; exact HDn.out) HMZ.out dd
        rwa [hFl, HML.out] at this
  case my =>
    intro X hX
    have hI : ∀ k, k < fl.length → (fl.getD k fl0).In X := fun i hh => by
      have h9 := hFi i (by omega)
      exact h9.still hX
    have h8 : fl.length ≤ 1048576 := by omega
    have h7 : RdFs X (some ⟨ga, 0, none⟩) fl := HF.out.still hX
    have h6 := many_any (cp := ca) h7 hI h8
    clear h7 hI h8 hX
    rw [hFl] at h6
    refine h6.mono ?_
    rintro e w' ⟨a, c, xs, rfl, h1, h2, -, -, h5⟩
    have hl : xs.length = n := by rw [← cos_len xs, h1, cos_len, hFl]
    exact ⟨a, c, xs, by rw [hl], h1, h2, h5⟩
  case on =>
    exact fun X hX => by
        refine (one_any (hO2.still hX)).mono ?_
        rintro e w' ⟨x, rfl, h1, h2⟩
        exact ⟨x, rfl, h1.ce, h1.rd (hO2.still hX).rd, h2⟩
  case qc =>
    exact fun X a c xs h1 h2 => by
        have hl : xs.length = n := by rw [← cos_len xs, h1, cos_len, hFl]
        have := qCut_any (cp := c) h2 (by omega)
        rwa [hl, h1] at this
  case ql =>
    exact fun X a c xs x h1 h2 h3 h4 => by
        have hl : xs.length = n := by rw [← cos_len xs, h1, cos_len, hFl]
        have := qlacks_any (cp := c) h2 h3 (by rw [hl]; exact hn20) dd
        rwa [hl, h1, h4] at this
  case qd =>
    exact fun X b wcc a c xs h0 h1 h2 => by
        have hl : xs.length = n := by rw [← cos_len xs, h1, cos_len, hFl]
        have := qduty_any (wcp := wcc) (cp := c) h0 hwn9 h2 (by rw [hl]; exact hn20) sf qq
        rwa [hl, h1, ← hwl] at this
  case dt =>
    exact fun X hX => by
        have := datas_any (cp := dc) (HMR.out.still hX) (by rw [HML.out]; exact HDn.out) HMZ.out
        rw [HML.out] at this
        refine this.mono ?_
        rintro e w' ⟨a, c, dm, rfl, h1, h2, h3⟩
        have hl : dm.length = dn := by rw [h2.len, HML.out]
        rw [hl] at h1
        exact ⟨a, c, dm, by rw [hl], h1, h2, h3⟩
  case qr =>
    exact fun X a c xs b c2 dm B2 h1 h2 h3 h4 => by
        have hl : xs.length = n := by rw [← cos_len xs, h1, cos_len, hFl]
        have hd : dm.length = dn := by rw [h4.len, HML.out]
        rw [← hd] at h3 ⊢
        have := qrest_any (cp := c) (mc := c2) h2 (by rw [hl]; exact hn20) (h3.rd rfl (fun i hh => by
          have h5 := h4.el i (by rw [← h4.len]; exact hh)
          rw [h5.1]
          exact HMG.out i (by rw [← h4.len]; exact hh))) (by rw [hd]; exact HDn.out) (fun i hh => ⟨h3.z hh, by rw [(h4.el i (by rw [← h4.len]; exact hh)).2.2]; exact (HMZ.out i (by rw [← h4.len]; exact hh)).2⟩) dd
        rw [hl, h1] at this
        refine this.mono ?_
        rintro e w' ⟨a, c, out, E, rfl, hS, hm, hb⟩
        exact ⟨a, c, out, E, rfl, hS.al h4, hm, hb⟩
end
end Go.Proofs.Ytihcaopcfhbofaa.Fm
