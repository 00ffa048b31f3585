import Derived.Test.YteeoffbjjifleaaZ5
import Derived.Test.YteeoffbjjifleaaZ6
import Derived.Test.YteeoffbjjifleaaZ7
import Derived.Test.YteeoffbjjifleaaZn
import Derived.Test.YteeoffbjjifleaaZj
import Derived.Test.YteeoffbjjifleaaZ2
namespace Go.Proofs.Yteeoffbjjifleaa.Fm
open Go.RowKit Go.Maps Mb
set_option linter.unusedVariables false
set_option maxRecDepth 100000
set_option linter.unusedSimpArgs false
section
variable {w w' W : World} {B : Nat}
theorem al_map {a b : List Dx} (h : Al a b) : a.map (fun x => (x.s, x.bs)) = b.map (fun x => (x.s, x.bs)) := by
  apply List.ext_getElem?
  intro j
  by_cases hj : j < b.length
  · have hja : j < a.length := by rw [h.len]; exact hj
    have := h.el j hj
    simp [List.getD, hj, hja] at this
    simp [hj, hja, this.1, this.2.2]
  · rw [List.getElem?_eq_none (by simp; rw [h.len]; omega), List.getElem?_eq_none (by simp; omega)]
theorem fnd_map (ds : List Dx) (s : Int × Int) : fndB ds s = ((ds.map (fun x => (x.s, x.bs))).find? (fun p => decide (p.1 = s))).map (·.2) := by
  unfold fndB
  rw [List.find?_map]
  simp [Function.comp_def]
theorem Al.fnd {a b : List Dx} (h : Al a b) (s : Int × Int) : fndB a s = fndB b s := by rw [fnd_map, fnd_map, al_map h]
theorem RsS.al {cs : List Co} {dm ds : List Dx} {d E : Int} {l : List Dx} (h : RsS cs dm d E l) (k : Al dm ds) : RsS cs ds d E l := by
  rcases h with h | h | h | ⟨a1, a2, a3, n, ss, h1, h2, ⟨⟨j, hj, hm⟩, h4, h5⟩ | ⟨h3, h4⟩⟩
  · exact .inl h
  · exact .inr (.inl h)
  · exact .inr (.inr (.inl h))
  · exact .inr (.inr (.inr ⟨a1, a2, a3, n, ss, h1, h2, .inl ⟨⟨j, hj, by rw [← k.fnd]; exact hm⟩, h4, h5⟩⟩))
  · exact .inr (.inr (.inr ⟨a1, a2, a3, n, ss, h1, h2, .inr ⟨⟨h3.len, fun j hj => ⟨(h3.el j hj).1, (h3.el j hj).2.1, by rw [← k.fnd]; exact (h3.el j hj).2.2⟩⟩, h4⟩⟩))
theorem RsS.r64 {cs : List Co} {ds : List Dx} {d E : Int} {l : List Dx} (h : RsS cs ds d E l) : ∀ i, i < l.length → i64B (l.getD i dx0).s.1 ∧ i64B (l.getD i dx0).s.2 := by
  have hlen := h.len
  rcases h with ⟨_, _, rfl⟩ | ⟨_, _, _, rfl⟩ | ⟨_, _, _, _, rfl⟩ | ⟨a1, a2, _, n, ss, h1, h2, ⟨_, _, rfl⟩ | ⟨h3, _⟩⟩
  · intro i hi; simp at hi
  · intro i hi; simp at hi
  · intro i hi; simp at hi
  · intro i hi; simp at hi
  · intro i hi
    have hT := tog_of a2
    unfold lkB at a1
    simp only [Bool.and_eq_true, inR, decide_eq_true_eq] at a1
    have hd := h3.el i (by rw [← h3.len]; exact hi)
    rw [hd.1]
    have hi2 : i < (ss.drop (d - baseOf cs).toNat).length := by rw [← h3.len]; exact hi
    rw [List.length_drop, h2.1] at hi2
    have e1 : (ss.drop (d - baseOf cs).toNat).getD i z2 = ss.getD ((d - baseOf cs).toNat + i) z2 := by simp [List.getD]
    rw [e1]
    have h5 := h2.2 ((d - baseOf cs).toNat + i) (by omega)
    have h6 := tog_pair hT ((atP_iff hT.con _ _).1 h5)
    have h7 := (hT.snd 0 (by omega)).h16
    unfold i64B
    dsimp only at h6 ⊢
    omega
theorem fnd_len {ds : List Dx} {s : Int × Int} {b : List Int} {M : Nat} (h : fndB ds s = some b) (hd : ∀ q, q < ds.length → (ds.getD q dx0).bs.length ≤ M) : b.length ≤ M := by
  unfold fndB at h
  cases hf : ds.find? (fun x => decide (x.s = s)) with
  | none => rw [hf] at h; cases h
  | some x =>
    rw [hf] at h
    simp at h
    subst h
    obtain ⟨q, hq, e⟩ := List.mem_iff_getElem.1 (List.mem_of_find?_eq_some hf)
    have := hd q hq
    simp [List.getD, hq, e] at this
    exact this
theorem RsS.bl {cs : List Co} {ds : List Dx} {d E : Int} {l : List Dx} (h : RsS cs ds d E l) {M : Nat} (hd : ∀ q, q < ds.length → (ds.getD q dx0).bs.length ≤ M) : ∀ i, i < l.length → (l.getD i dx0).bs.length ≤ M := by
  rcases h with ⟨_, _, rfl⟩ | ⟨_, _, _, rfl⟩ | ⟨_, _, _, _, rfl⟩ | ⟨a1, a2, _, n, ss, h1, h2, ⟨_, _, rfl⟩ | ⟨h3, _⟩⟩
  · intro i hi; simp at hi
  · intro i hi; simp at hi
  · intro i hi; simp at hi
  · intro i hi; simp at hi
  · intro i hi
    exact fnd_len (h3.el i (by rw [← h3.len]; exact hi)).2.2 hd
theorem MoT.z {t : Nat} {v : Value} {out : List Dx} (h : MoT t B w v out) {i : Nat} (hi : i < out.length) : (out.getD i dx0).ba = none → (out.getD i dx0).bs.length = 0 ∧ (out.getD i dx0).bc = 0 := fun hn => by
  have h1 := h.el i hi
  rcases own_two h1 with ⟨e, h0⟩ | ⟨g, c, e, _⟩
  · unfold Dx.v at e
    simp only [Value.slice.injEq] at e
    exact ⟨h0, e.2.2⟩
  · unfold Dx.v at e
    rw [hn] at e
    simp at e
theorem Bo.cell {V : World} {la : Option Addr} {lc : Nat} {out : List Dx} {i : Nat} {mv : Value} {ms : Nat → Nat × Nat} (h : Bo V w la lc out i mv ms) {q : Nat} (hq : q < out.length) : ∃ b off, la = some ⟨b, off, none⟩ ∧ w.cell? ⟨b, off + q * 4 + 3, none⟩ = some (.slice (out.getD q dx0).ba (out.getD q dx0).bs.length (out.getD q dx0).bc) := by
  have hr : Row w la out.length 4 (dxC out) := own_row h.row (fun i hi => msC_at out i hi)
  rcases hr with h0 | ⟨b, off, e, hc⟩
  · omega
  · refine ⟨b, off, e, ?_⟩
    have := hc (q * 4 + 3) (by omega)
    unfold dxC at this
    rw [show (q * 4 + 3) / 4 = q by omega, show (q * 4 + 3) % 4 = 3 by omega, ← Nat.add_assoc] at this
    exact this
theorem Bo.body {V : World} {la : Option Addr} {lc : Nat} {out : List Dx} {i : Nat} {mv : Value} {ms : Nat → Nat × Nat} (h : Bo V w la lc out i mv ms) {q t : Nat} (hq : q < out.length) (hqi : q < i) (ht : t < (out.getD q dx0).bs.length) : ∃ g go, (out.getD q dx0).ba = some ⟨g, go, none⟩ ∧ w.cell? ⟨g, go + t, none⟩ = some (.int .u8 (q : Int)) := by
  obtain ⟨bb, h1, h2, h3⟩ := h.el q hq
  unfold Dx.v at h2
  rw [← h1] at h2
  rcases own_rdB h2 rfl with h0 | ⟨g, go, e, hc⟩
  · omega
  · refine ⟨g, go, e, ?_⟩
    rw [hc t (by omega)]
    show some (Value.int .u8 (bb.getD t 0)) = _
    rw [h3 hqi t (by omega)]
theorem Bo.more {V : World} {la : Option Addr} {lc : Nat} {out : List Dx} {i : Nat} {ma : Option Addr} {mn mc : Nat} {ms : Nat → Nat × Nat} (h : Bo V w la lc out i (.slice ma mn mc) ms) {q : Nat} (hq : q < i) : ∃ b off mg z0 c2, ma = some ⟨b, off, none⟩ ∧ w.cell? ⟨b, off + q, none⟩ = some (.slice (some ⟨mg, z0, none⟩) ((out.getD q dx0).bs.length + 1) c2) ∧ (∀ t, t < (out.getD q dx0).bs.length → w.cell? ⟨mg, z0 + t, none⟩ = some (.int .u8 (q : Int))) ∧ w.cell? ⟨mg, z0 + (out.getD q dx0).bs.length, none⟩ = some (.int .u8 (100 + (q : Int))) := by
  have hmn : mn = i := by
    rcases own_sl h.mrow with ⟨a, c, e⟩
    simp at e
    exact e.2.1
  subst hmn
  have hr : Row w ma mn 1 (fun j => (mC out ms mn).getD j undef) := own_row h.mrow (fun j hj => by rw [List.getD, List.getElem?_eq_getElem (by rw [mC_len]; omega)]; rfl)
  obtain ⟨_, h2, _⟩ := h.mel q hq
  rcases hr with h0 | ⟨b, off, e, hc⟩
  · omega
  · rcases h2 with h0 | ⟨mg, z0, e2, hc2⟩
    · simp at h0
    · refine ⟨b, off, mg, z0, (ms q).2, e, ?_, fun t ht => ?_, ?_⟩
      · have := hc q (by omega)
        rw [this]
        show some ((mC out ms mn).getD q undef) = _
        have e3 : (mC out ms mn).getD q undef = .slice (some ⟨(ms q).1, 0, none⟩) ((out.getD q dx0).bs.length + 1) (ms q).2 := by
          unfold List.getD
          rw [mC_at _ _ _ _ hq]
          rfl
        rw [e3, e2]
      · rw [hc2 t (by rw [List.length_append, List.length_replicate]; simp only [List.length_cons, List.length_nil]; omega)]
        show some (Value.int .u8 ((List.replicate (out.getD q dx0).bs.length (q : Int) ++ [100 + (q : Int)]).getD t 0)) = _
        generalize (out.getD q dx0).bs.length = n at *
        simp [List.getD, List.getElem?_append, ht]
      · rw [hc2 _ (by rw [List.length_append, List.length_replicate]; simp only [List.length_cons, List.length_nil]; omega)]
        show some (Value.int .u8 ((List.replicate (out.getD q dx0).bs.length (q : Int) ++ [100 + (q : Int)]).getD (out.getD q dx0).bs.length 0)) = _
        generalize (out.getD q dx0).bs.length = n at *
        simp [List.getD]
theorem u8_id {a : Int} (h0 : 0 ≤ a) (h1 : a ≤ 255) : IntKind.u8.wrap a = a := by
  simp [IntKind.wrap, IntKind.bits, IntKind.signed]
  omega
theorem bytes_info : ∃ i : TypeInfo, Try.prog.info? 62 = some i ∧ i.zero = some (.slice none 0 0) ∧ i.size = 1 ∧ i.bytes = 24 := by
  have h : (Try.prog.info? 62).map (fun i => (i.zero, i.size, i.bytes)) = some (some (.slice none 0 0), 1, 24) := by kernel_rfl
  cases hq : Try.prog.info? 62 with
  | none => rw [hq] at h; cases h
  | some i => rw [hq] at h; simp at h; exact ⟨i, rfl, h.1, h.2.1, h.2.2⟩
theorem bU8 (z : Int) : Try.prog.builtSlice 5 1 [(0, .int .u8 z)] = some #[.int .u8 z] := by kernel_rfl
theorem bBs (a : Option Addr) (n c : Nat) : Try.prog.builtSlice 62 1 [(0, .slice a n c)] = some #[.slice a n c] := by kernel_rfl
structure Lr (w0 w : World) (cb : Nat) (k : Ca) (ds dm : List Dx) (ta ia na : Option Addr) (nc : Nat) (xs : List Fl) : Prop where
  c : w.heap[cb]? = some (.cells k.cs.toArray 31 (0, 0))
  t : Tws w w0.heap.size ta ia xs k.fs
  r : RdFs w k.ao k.fs
  d : RdDs w k.ma ds
  m : MoT 85 w0.heap.size w (.slice na dm.length nc) dm
  b : Below w0.heap.size w0 w
theorem Lr.still {w0 : World} {cb : Nat} {k : Ca} {ds dm : List Dx} {ta ia na : Option Addr} {nc : Nat} {xs : List Fl} (h : Lr w0 w cb k ds dm ta ia na nc xs) (hb : Below w.heap.size w w') : Lr w0 w' cb k ds dm ta ia na nc xs :=
  ⟨blk_on hb h.c, h.t.still hb, h.r.still hb, h.d.still hb, h.m.still hb, bstep h.b hb⟩
set_option maxHeartbeats 16000000 in
theorem flushRest_any {k : Ca} {ds : List Dx} (hr : RdFs w k.ao k.fs) (hi : ∀ i, i < k.fs.length → (k.fs.getD i fl0).In w) (hn : k.fs.length ≤ 1048576) (hd : RdDs w k.ma ds) (hdl : ds.length = k.mn) (hdn : ds.length ≤ 1048576) (hdz : ∀ i, i < ds.length → ((ds.getD i dx0).ba = none → (ds.getD i dx0).bs.length = 0 ∧ (ds.getD i dx0).bc = 0) ∧ (ds.getD i dx0).bs.length ≤ 1048576) : Calls Try.prog 5 #[.agg k.cs.toArray] w fun e w' => e = .returned (.bool true) ∧ Below w.heap.size w w' := by
  generalize hW1 : w.alloc (.cells k.cs.toArray 31) = W1
  have b1 : Below w.heap.size w W1 := hW1 ▸ balloc (Below.refl _ _)
  have k1 : W1.heap[w.heap.size]? = some (.cells k.cs.toArray 31 (0, 0)) := by rw [← hW1]; exact heap_alloc_new w _
  have HB1 : Hid (Below w.heap.size w W1) := b1
  have HK1 : Hid (W1.heap[w.heap.size]? = some (.cells k.cs.toArray 31 (0, 0))) := k1
  have HR1 : Hid (RdFs W1 k.ao k.fs) := hr.still b1
  have HD1 : Hid (RdDs W1 k.ma ds) := hd.still b1
  have HTw := twins_any (w := W1) (cp := k.cp) (hr.still b1) (fun i hh => (hi i hh).still b1) hn
  have HI : Hid (∀ i, i < k.fs.length → (k.fs.getD i fl0).c.sl.length ≤ 1048576 ∧ (k.fs.getD i fl0).c.hv.length ≤ 1048576) := fun i hh => ⟨(hi i hh).sn, (hi i hh).hn⟩
  have Hn : Hid (k.fs.length ≤ 1048576) := hn
  have Hdl : Hid (ds.length = k.mn) := hdl
  have Hdn : Hid (ds.length ≤ 1048576) := hdn
  have HDz : Hid (∀ i, i < ds.length → ((ds.getD i dx0).ba = none → (ds.getD i dx0).bs.length = 0 ∧ (ds.getD i dx0).bc = 0) ∧ (ds.getD i dx0).bs.length ≤ 1048576) := hdz
  have HCs : Hid (∀ X : World, X.heap[w.heap.size]? = some (.cells k.cs.toArray 31 (0, 0)) → X.cell? ⟨w.heap.size, 0, none⟩ = some (.slice k.ao k.fs.length k.cp) ∧ X.cell? ⟨w.heap.size, 8, none⟩ = some (.int .i64 k.d) ∧ X.cell? ⟨w.heap.size, 12, none⟩ = some (.slice k.ma ds.length k.mc)) := fun X h => ⟨blk_cell h 0, blk_cell h 8, by rw [hdl]; exact blk_cell h 12⟩
  clear hr hi b1 k1 hn hd hdl hdn hdz
  generalize k.cs.toArray = ca at hW1 ⊢
  obtain ⟨q0, -, -⟩ := HCs.out _ HK1.out
  go_enter Try.func5, Try.ntmps5
  go_upto_region 2 with (first
    | (go_at_call 6; refine HTw.mono ?_; rintro e V1 ⟨ta, tc, ia, ic, xs, rfl, hT, hv1, hcap, hcm⟩)
    | fail)
  clear q0 HTw hW1 hcap hcm
  have BV1 : Hid (Below W1.heap.size W1 V1) := hv1
  have HT1 : Hid (Tws V1 W1.heap.size ta ia xs k.fs) := hT
  obtain ⟨-, -, q12⟩ := HCs.out _ (blk_on hv1 HK1.out)
  have HDa := datas_any (w := V1) (cp := k.mc) (HD1.out.still hv1) Hdn.out HDz.out
  clear hT hv1
  go_upto_region 3 with (first
    | (go_at_call 17; refine HDa.mono ?_; rintro e V3 ⟨na, nc, dm, rfl, hm, hal, hv3⟩; have HM3 : Hid _ := hm; have HAl : Hid (Al dm ds) := hal; have BV3 : Hid (Below V1.heap.size V1 V3) := hv3; clear hm hal hv3)
    | fail)
  have BW3 : Hid (Below W1.heap.size W1 V3) := bstep BV1.out BV3.out
  have HL : Hid (Lr W1 V3 w.heap.size k ds dm ta ia na nc xs) := ⟨blk_on BW3.out HK1.out, HT1.out.still BV3.out, HR1.out.still BW3.out, HD1.out.still BW3.out, HM3.out.lower BV1.out.size, BW3.out⟩
  have Hlen : Hid (xs.length = k.fs.length) := HT1.out.len
  have Hcos : Hid (cos xs = cos k.fs) := HT1.out.cos
  have H64 : Hid (∀ i, i < dm.length → i64B (dm.getD i dx0).s.1 ∧ i64B (dm.getD i dx0).s.2) := fun i hh => by
    rw [(HAl.out.el i (by rw [← HAl.out.len]; exact hh)).1]
    exact (HD1.out.el i (by rw [← HAl.out.len]; exact hh)).r
  have HRe := rest_any (w := V3) (cp := ic) (mc := nc) (fs := xs) (ds := dm) (HL.out.t.rd HL.out.r) (by rw [Hlen.out]; exact Hn.out) (HL.out.m.rd rfl H64.out) (by rw [HAl.out.len]; exact Hdn.out) (fun i hh => ⟨HL.out.m.z hh, by rw [(HAl.out.el i (by rw [← HAl.out.len]; exact hh)).2.2]; exact (HDz.out i (by rw [← HAl.out.len]; exact hh)).2⟩) k.d
  obtain ⟨-, q8, -⟩ := HCs.out _ HL.out.c
  clear HDa q12 HM3 BV3 BV1 HT1
  go_upto_region 4 with (first
    | (go_at_call 18; refine HRe.mono ?_; rintro e V5 ⟨la, lc, out, E, rfl, hS, hmo, hv5⟩; have HS5 : Hid (RsS (cos xs) dm k.d E out) := hS; have HM5 : Hid (MoT 64 V3.heap.size V5 (.slice la out.length lc) out) := hmo; have BV5 : Hid (Below V3.heap.size V3 V5) := hv5; clear hS hmo hv5)
    | fail)
  have HL5 : Hid (Lr W1 V5 w.heap.size k ds dm ta ia na nc xs) := HL.out.still BV5.out
  have HQa := qrest_any (w := V5) (cp := k.cp) (mc := k.mc) HL5.out.r Hn.out HL5.out.d Hdn.out HDz.out k.d
  obtain ⟨q0, q8', q12⟩ := HCs.out _ HL5.out.c
  clear HRe q8
  go_upto_region 5 with (first
    | (go_at_call 19; refine HQa.mono ?_; rintro e V6 ⟨ka, kc, out', E', rfl, hS, hko, hv6⟩; have HS6 : Hid (RsS (cos k.fs) ds k.d E' out') := hS; have HM6 : Hid (MoT 64 V5.heap.size V6 (.slice ka out'.length kc) out') := hko; have BV6 : Hid (Below V5.heap.size V5 V6) := hv6; clear hS hko hv6)
    | fail)
  have hS7 : RsS (cos k.fs) ds k.d E out := by have := HS5.out.al HAl.out; rwa [Hcos.out] at this
  obtain ⟨rfl, hal2⟩ := hS7.eq HS6.out
  have HA2 : Hid (Al out out') := hal2
  have H7 : Hid (RsS (cos k.fs) ds k.d E out) := hS7
  have HBl : Hid (∀ i, i < out.length → (out.getD i dx0).bs.length ≤ 1048576) := fun i hh => hS7.bl (fun q hq => (HDz.out q hq).2) i hh
  have hN128 : out.length ≤ 128 := hS7.len
  have HL6 : Hid (Lr W1 V6 w.heap.size k ds dm ta ia na nc xs) := HL5.out.still BV6.out
  have HSm : Hid (Calls Try.prog 20 #[.slice la out.length lc, .slice ka out'.length kc] V6 fun e w' => e = .returned (.bool true) ∧ Below V6.heap.size V6 w') := sameMsgs_any ((HM5.out.still BV6.out).rd rfl hS7.r64) (HM6.out.rd rfl HS6.out.r64) hal2 (by have := HS6.out.len; omega)
  have HSd : Hid (∀ X, Below V3.heap.size V3 X → Calls Try.prog 21 #[.slice na dm.length nc, .slice k.ma ds.length k.mc] X fun e w' => e = .returned (.bool true) ∧ Below X.heap.size X w') := fun X hX => sameDatas_any ((HL.out.m.still hX).rd rfl H64.out) (HL.out.d.still hX) HAl.out (by have := Hdn.out; omega)
  have HAU : Hid (∀ X, Below V6.heap.size V6 X → Calls Try.prog 12 #[.slice ta xs.length tc, .slice ia xs.length ic, .slice k.ao k.fs.length k.cp] X fun e w' => e = .returned (.bool true) ∧ Below X.heap.size X w') := fun X hX => allUn_any (HL6.out.t.still hX) (HL6.out.r.still hX) Hn.out HI.out
  have HN : Calls Try.prog 10 #[.int .i64 E] V6 fun e w' => e = .returned (.int .i64 E) ∧ V6 = w' := (num_any (w := V6) E).mono fun _ _ h => ⟨h.1, h.2.symm⟩
  have HqX : Hid (∀ X, Below V3.heap.size V3 X → X.cell? ⟨w.heap.size, 0, none⟩ = some (.slice k.ao k.fs.length k.cp) ∧ X.cell? ⟨w.heap.size, 12, none⟩ = some (.slice k.ma ds.length k.mc)) := fun X hX => ⟨(HCs.out _ (blk_on hX HL.out.c)).1, (HCs.out _ (blk_on hX HL.out.c)).2.2⟩
  have B36 : Hid (Below V3.heap.size V3 V6) := bstep BV5.out BV6.out
  clear HQa q0 q8' q12 HS5 hS7 hal2
  go_wp2_with (first
    | (go_at_call 10; refine HN.mono ?_; rintro e Vz ⟨rfl, rfl⟩)
    | (go_at_call 20; refine HSm.out.mono ?_; rintro e V7 ⟨rfl, hb7⟩; have BV7 : Hid (Below V6.heap.size V6 V7) := hb7; clear hb7; obtain ⟨-, p12⟩ := HqX.out _ (bstep B36.out BV7.out))
    | (go_at_call 21; refine (HSd.out _ (bstep B36.out BV7.out)).mono ?_; rintro e V8 ⟨rfl, hb8⟩; have BV8 : Hid (Below V6.heap.size V6 V8) := bstep BV7.out hb8; clear hb8 p12; obtain ⟨p0, -⟩ := HqX.out _ (bstep B36.out BV8.out))
    | (go_at_call 12; refine (HAU.out _ BV8.out).mono ?_; rintro e V9 ⟨rfl, hb9⟩; have BV9 : Hid (Below V6.heap.size V6 V9) := bstep BV8.out hb9; clear hb9 p0)
    | fail)
  have B39 : Hid (Below V3.heap.size V3 V9) := bstep B36.out BV9.out
  have HBo : Hid (Bo V3 V9 la lc out 0 (.slice none 0 0) (fun _ => (0, 0))) := Bo.start (HM5.out.still (bstep BV6.out BV9.out)) B39.out
  clear HSm HAU HN HL6 HL5 HM5 HM6 HS6 HA2 B36 BV9 BV8 BV7 BV6 BV5 B39
  obtain ⟨bi, bhi, bhz0, bhz1, bhz2⟩ := bytes_info
  generalize hN : out.length = N at *
  have HNl : Hid (out.length = N) := hN
  clear hN
  go_loopw [10, 11] (fun mv iv wr => ∃ i : Nat, i ≤ N ∧ iv = .int .i64 (i : Int) ∧ ∃ ms, Bo V3 wr la lc out i mv ms) (fun _ iv _ => N - (intOf iv).toNat)
  case atStart => exact ⟨0, Nat.zero_le _, rfl, _, HBo.out⟩
  case round =>
    obtain ⟨i, hiN, rfl, ms, hbo⟩ := hrel
    have HB : Hid (Bo V3 wr la lc out i u10 ms) := hbo
    clear hbo HBo
    have i0 : (0 : Int) ≤ (i : Int) := Int.natCast_nonneg _
    by_cases hlt : i < N
    · have i1 : (i : Int) < (N : Int) := by omega
      have Hio : Hid (i < out.length) := (show i < out.length from by rw [HNl.out]; exact hlt)
      obtain ⟨b, off, rfl, -⟩ := HB.out.cell Hio.out
      have Hce : Hid (∀ (X : World) mv' ms' i', Bo V3 X (some ⟨b, off, none⟩) lc out i' mv' ms' → X.cell? ⟨b, off + i * 4 + 3, none⟩ = some (.slice (out.getD i dx0).ba (out.getD i dx0).bs.length (out.getD i dx0).bc)) := fun X mv' ms' i' hX => by
        obtain ⟨b', off', e', h'⟩ := hX.cell Hio.out
        simp only [Option.some.injEq, Addr.mk.injEq, and_true] at e'
        rw [e'.1, e'.2]
        exact h'
      obtain ⟨bb0, hb1, hb2, -⟩ := HB.out.el i Hio.out
      have hb2' : wr.ownsRow V3.heap.size 5 1 (.slice (out.getD i dx0).ba (out.getD i dx0).bs.length (out.getD i dx0).bc) (out.getD i dx0).bs.length (byts bb0) := by have := hb2; unfold Dx.v at this; rwa [hb1] at this
      have HE0 : Hid (∃ bb : List Int, bb.length = (out.getD i dx0).bs.length ∧ wr.ownsRow V3.heap.size 5 1 (.slice (out.getD i dx0).ba (out.getD i dx0).bs.length (out.getD i dx0).bc) (out.getD i dx0).bs.length (byts bb) ∧ ∀ t, t < 0 → bb.getD t 0 = (i : Int)) := ⟨bb0, hb1, hb2', fun t ht => by omega⟩
      have Hvx : Hid ((out.getD i dx0).v = .slice (out.getD i dx0).ba (out.getD i dx0).bs.length (out.getD i dx0).bc) := rfl
      have HBs : Hid ((out.getD i dx0).bs.length ≤ 1048576) := HBl.out i hlt
      clear hb1 hb2 hb2'
      generalize hxx : out.getD i dx0 = x at *
      have Hxx : Hid (out.getD i dx0 = x) := hxx
      have hxl := HBs.out
      generalize hnn : x.bs.length = n at *
      have Hnn : Hid (x.bs.length = n) := hnn
      clear hxx hnn
      go_wp2
      go_loopw [12] (fun jv wr2 => ∃ j : Nat, j ≤ n ∧ jv = .int .i64 (j : Int) ∧ (∃ bb : List Int, bb.length = n ∧ wr2.ownsRow V3.heap.size 5 1 (.slice x.ba n x.bc) n (byts bb) ∧ ∀ t, t < j → bb.getD t 0 = (i : Int)) ∧ Bo V3 wr2 (some ⟨b, off, none⟩) lc out i u10 ms) (fun jv _ => n - (intOf jv).toNat)
      case atStart => exact ⟨0, Nat.zero_le _, rfl, HE0.out, HB.out⟩
      case round =>
        obtain ⟨j, hjn, rfl, hbb, hbo⟩ := hrel
        have HBB : Hid (∃ bb : List Int, bb.length = n ∧ wr.ownsRow V3.heap.size 5 1 (.slice x.ba n x.bc) n (byts bb) ∧ ∀ t, t < j → bb.getD t 0 = (i : Int)) := hbb
        clear HB
        have HB : Hid (Bo V3 wr (some ⟨b, off, none⟩) lc out i u10 ms) := hbo
        have c3 := Hce.out _ _ _ _ hbo
        clear hbb hbo HE0
        have j0 : (0 : Int) ≤ (j : Int) := Int.natCast_nonneg _
        by_cases hjl : j < n
        · have j1 : (j : Int) < (n : Int) := by omega
          obtain ⟨bb, h1, h2, h3⟩ := HBB.out
          obtain ⟨g, go, hgo, hba⟩ : ∃ g go, go = 0 ∧ x.ba = some ⟨g, go, none⟩ := by
            rcases own_two h2 with ⟨e, h0⟩ | ⟨g, c, e, _⟩
            · omega
            · simp only [Value.slice.injEq] at e
              exact ⟨g, 0, rfl, e.1⟩
          have h2g := h2
          rw [hba, hgo] at h2g
          obtain ⟨⟨C, hC, hcc⟩, h5⟩ := own_setB h2g h1 hjl (i : Int)
          have cj : wr.cell? ⟨g, go + j, none⟩ = some (.int .u8 (bb.getD j 0)) := by rw [hgo, Nat.zero_add]; exact hcc
          have zj : wr.frozen? ⟨g, go + j, none⟩ = false := frozen_of_row wr _ _ _ _ hC
          have HNb : Hid ((bb.set j (i : Int)).length = n) := (show (bb.set j (i : Int)).length = n from by rw [List.length_set]; exact h1)
          have HNa : Hid (∀ t, t < j + 1 → (bb.set j (i : Int)).getD t 0 = (i : Int)) := fun t ht => by
            by_cases e : t = j
            · subst e; simp [List.getD, show t < bb.length by omega]
            · have := h3 t (by omega)
              simp [List.getD, List.getElem?_set, show ¬ j = t from fun h => e h.symm] at this ⊢
              exact this
          have HO5 : Hid ((wr.setCell ⟨g, go + j, none⟩ (.int .u8 (i : Int))).ownsRow V3.heap.size 5 1 (.slice (some ⟨g, go, none⟩) n x.bc) n (byts (bb.set j (i : Int)))) := (show (wr.setCell ⟨g, go + j, none⟩ (.int .u8 (i : Int))).ownsRow V3.heap.size 5 1 (.slice (some ⟨g, go, none⟩) n x.bc) n (byts (bb.set j (i : Int))) from by rw [hgo, Nat.zero_add]; exact h5)
          have HB5 : Hid (Bo V3 (wr.setCell ⟨g, go + j, none⟩ (.int .u8 (i : Int))) (some ⟨b, off, none⟩) lc out i u10 ms) := HB.out.put Hio.out (bb := bb.set j (i : Int)) (by
            rw [Hxx.out, Hvx.out, hba]
            exact kset (P := fun k => (Value.slice (some ⟨g, go, none⟩) n x.bc).ownBlock = some k) wr g (go + j) (.int .u8 (i : Int)) (by simp [Value.ownBlock])) (by rw [Hxx.out, Hnn.out, List.length_set]; exact h1) (by
            rw [Hxx.out, Hvx.out, hba, List.length_set, h1]; exact HO5.out)
          have Hba : Hid (x.ba = some ⟨g, go, none⟩) := hba
          rw [hba] at c3
          clear h1 h2 h2g h3 h5 hC hcc hba hgo HBB
          go_wp2
          exact ⟨⟨j + 1, by omega, by go_num, ⟨_, HNb.out, by rw [Hba.out]; exact HO5.out, HNa.out⟩, HB5.out⟩, by simp [intOf]; omega⟩
        · obtain rfl : j = n := by omega
          obtain ⟨bb, h1, h2, h3⟩ := HBB.out
          have H1 : Hid (bb.length = j) := h1
          have H2 : Hid (wr.ownsRow V3.heap.size 5 1 (.slice x.ba j x.bc) j (byts bb)) := h2
          have H3 : Hid (∀ t, t < j → bb.getD t 0 = (i : Int)) := h3
          have hsV : V3.heap.size ≤ wr.heap.size := HB.out.b.size
          clear h1 h2 h3 HBB
          go_wp2_with (first
            | (refine wl_bsl rfl 62 5 1 _ rfl Try.underlying62 #[.int .u8 (100 + (i : Int))] (bsl_eq (by kernel_rfl) (bU8 _)) ?_; intro Y1 k1 b1 s1; have K1 : Hid _ := k1; have BY1 : Hid (Below wr.heap.size wr Y1) := b1; clear k1 b1 s1)
            | (refine app_body rfl _ _ rfl (ba := x.ba) (n := j) (c := x.bc) (bb := bb) (z := 100 + (i : Int)) rfl H1.out hxl (own_still H2.out BY1.out) rfl K1.out ?_; intro mg mc Y2 r1 r2 r3 r4 r5)
            | (refine wl_bsl rfl 61 62 1 _ rfl Try.underlying61 #[.slice (some ⟨mg, 0, none⟩) (j + 1) mc] (bsl_eq (by kernel_rfl) (bBs _ _ _)) ?_; intro Y3 k3 b3 s3; have K3 : Hid _ := k3; have BY3 : Hid (Below Y2.heap.size Y2 Y3) := b3; clear k3 b3 s3)
            | (refine app_g rfl _ _ 61 rfl V3.heap.size 62 bi _ 1 24 Try.underlying61 bhi bhz0 bhz1 bhz2 rfl (by omega) u10 i (mC out ms i) rfl (own_still ((HB.out.step Hio.out ((Kept.ofBelow BY1.out _).trans (by rw [Hxx.out, Hvx.out]; exact r3.out))).2.2.1) BY3.out) (some ⟨Y2.heap.size, 0, none⟩) 1 1 [.slice (some ⟨mg, 0, none⟩) (j + 1) mc] rfl (fun h => by cases h) rfl (fun ad he j u hu => by cases he; rw [Addr.add_lit, Nat.zero_add, blk_cell K3.out]; simpa using hu) (by intro u hu; simp at hu; subst hu; rfl) (by unfold maxLen; omega) (by omega) (Nat.le_trans hsV (Nat.le_trans BY1.out.size (Nat.le_trans r3.out.size BY3.out.size))) ?_; intro mv' Y4 o4 k4 f4)
            | fail)
          have HKx : Kept wr Y3 (fun k => (out.getD i dx0).v.ownBlock = some k) := ((Kept.ofBelow BY1.out _).trans (by rw [Hxx.out, Hvx.out]; exact r3.out)).trans (Kept.ofBelow BY3.out _)
          have HNx := HB.out.next Hio.out (bb := bb) (mg := mg) (mc := mc) (by rw [Hxx.out, Hnn.out]; exact H1.out) (fun t ht => H3.out t (by rw [← H1.out]; exact ht)) HKx (by rw [Hxx.out, Hvx.out, H1.out]; exact own_still r2.out BY3.out) (Row.still r1.out BY3.out) (by rw [Hxx.out, Hvx.out]; exact r4.out.imp id (fun h => Nat.le_trans BY1.out.size h)) (by obtain ⟨C, hC⟩ := r5.out; exact ⟨C, blk_on BY3.out hC⟩) k4.out (by rw [Hxx.out, Hnn.out]; exact o4.out)
          exact ⟨⟨i + 1, by omega, by go_num, _, HNx⟩, by simp [intOf]; omega⟩
    · obtain rfl : i = N := by omega
      obtain ⟨ma, mcc, rfl⟩ := own_sl HB.out.mrow
      have HN2 : Hid (out.length = i) := HNl.out
      clear HNl
      go_wp2
      go_loopw [13] (fun iv wr2 => ∃ q : Nat, q ≤ i ∧ iv = .int .i64 (q : Int) ∧ Bo V3 wr2 la lc out i (.slice ma i mcc) ms) (fun iv _ => i - (intOf iv).toNat)
      case atStart => exact ⟨0, Nat.zero_le _, rfl, HB.out⟩
      case round =>
        obtain ⟨q, hqN, rfl, hbo⟩ := hrel
        clear HB
        have HB : Hid (Bo V3 wr la lc out i (.slice ma i mcc) ms) := hbo
        clear hbo
        have q0 : (0 : Int) ≤ (q : Int) := Int.natCast_nonneg _
        by_cases hql : q < i
        · have q1 : (q : Int) < (i : Int) := by omega
          have q2 : (q : Int) ≤ 127 := by omega
          have Hqo : Hid (q < out.length) := (show q < out.length from by rw [HN2.out]; exact hql)
          have Hqi : Hid (q < i) := hql
          obtain ⟨b, off, rfl, -⟩ := HB.out.cell Hqo.out
          obtain ⟨mb, mo, -, -, -, rfl, -, -, -⟩ := HB.out.more Hqi.out
          have Hce : Hid (∀ (X : World), Bo V3 X (some ⟨b, off, none⟩) lc out i (.slice (some ⟨mb, mo, none⟩) i mcc) ms → X.cell? ⟨b, off + q * 4 + 3, none⟩ = some (.slice (out.getD q dx0).ba (out.getD q dx0).bs.length (out.getD q dx0).bc) ∧ ∃ mg z0 c2, X.cell? ⟨mb, mo + q, none⟩ = some (.slice (some ⟨mg, z0, none⟩) ((out.getD q dx0).bs.length + 1) c2) ∧ (∀ t, t < (out.getD q dx0).bs.length → X.cell? ⟨mg, z0 + t, none⟩ = some (.int .u8 (q : Int))) ∧ X.cell? ⟨mg, z0 + (out.getD q dx0).bs.length, none⟩ = some (.int .u8 (100 + (q : Int)))) := fun X hX => by
            obtain ⟨b', off', e', h'⟩ := hX.cell Hqo.out
            simp only [Option.some.injEq, Addr.mk.injEq, and_true] at e'
            obtain ⟨mb', mo', mg, z0, c2, e2, h2, h3, h4⟩ := hX.more Hqi.out
            simp only [Option.some.injEq, Addr.mk.injEq, and_true] at e2
            rw [e'.1, e'.2, e2.1, e2.2]
            exact ⟨h', mg, z0, c2, h2, h3, h4⟩
          have Hbd : Hid (∀ (X : World), Bo V3 X (some ⟨b, off, none⟩) lc out i (.slice (some ⟨mb, mo, none⟩) i mcc) ms → ∀ t, t < (out.getD q dx0).bs.length → ∃ g go, (out.getD q dx0).ba = some ⟨g, go, none⟩ ∧ X.cell? ⟨g, go + t, none⟩ = some (.int .u8 (q : Int))) := fun X hX t ht => hX.body Hqo.out Hqi.out ht
          have HBs : Hid ((out.getD q dx0).bs.length ≤ 1048576) := HBl.out q hql
          generalize out.getD q dx0 = x at *
          have hxl := HBs.out
          generalize x.bs.length = n at *
          go_wp2
          go_loopw [14] (fun jv wr2 => ∃ j : Nat, j ≤ n ∧ jv = .int .i64 (j : Int) ∧ Bo V3 wr2 (some ⟨b, off, none⟩) lc out i (.slice (some ⟨mb, mo, none⟩) i mcc) ms) (fun jv _ => n - (intOf jv).toNat)
          case atStart => exact ⟨0, Nat.zero_le _, rfl, HB.out⟩
          case round =>
            obtain ⟨j, hjn, rfl, hbo⟩ := hrel
            clear HB
            have HB : Hid (Bo V3 wr (some ⟨b, off, none⟩) lc out i (.slice (some ⟨mb, mo, none⟩) i mcc) ms) := hbo
            obtain ⟨c3, mg, z0, c2, cm, cmt, cml⟩ := Hce.out wr hbo
            clear hbo
            have j0 : (0 : Int) ≤ (j : Int) := Int.natCast_nonneg _
            by_cases hjl : j < n
            · have j1 : (j : Int) < (n : Int) := by omega
              have j2 : (j : Int) < ((n + 1 : Nat) : Int) := by omega
              obtain ⟨g, go, hba, cb⟩ := Hbd.out wr HB.out j hjl
              have cj := cmt j hjl
              rw [hba] at c3
              clear hba cmt cml
              go_wp2
              exact ⟨⟨j + 1, by omega, by go_num, HB.out⟩, by simp [intOf]; omega⟩
            · obtain rfl : j = n := by omega
              have n1 : (j : Int) < ((j + 1 : Nat) : Int) := by omega
              clear cmt
              go_wp2
              refine wp_region_held_drew (S := (fun w' => w'.cell? ⟨mb, mo + q, none⟩ = some (.slice (some ⟨mg, z0, none⟩) (j + 1) c2) ∧ w'.cell? ⟨b, off + q * 4 + 3, none⟩ = some (.slice x.ba j x.bc) ∧ w'.cell? ⟨mg, z0 + j, none⟩ = some (.int .u8 (100 + (q : Int))))) (by kernel_rfl) ⟨cm, c3, cml⟩ (fun hHeld => ?_)
              simp only [Act.put, List.size_toArray, List.length_cons, List.length_nil, Nat.zero_add]
              refine wpAnyH_take (i := 0) (v := .slice (some ⟨mb, mo, none⟩) i mcc) rfl (by kernel_rfl) (by kernel_rfl) (by kernel_rfl) (fun _ _ _ h => h) (Or.inl ⟨by rfl, fun w' hS => by go_simp⟩) hHeld ?_
              simp only [Act.put, List.getElem_toArray, List.getElem_cons_zero, List.getElem_cons_succ, List.setIfInBounds_toArray, List.set_cons_zero, List.set_cons_succ]
              refine wpAnyH_take (i := 1) (v := .int .i64 (q : Int)) rfl (by kernel_rfl) (by kernel_rfl) (by kernel_rfl) (fun _ _ _ h => h) (Or.inl ⟨by rfl, fun w' hS => by go_simp⟩) hHeld ?_
              simp only [Act.put, List.getElem_toArray, List.getElem_cons_zero, List.getElem_cons_succ, List.setIfInBounds_toArray, List.set_cons_zero, List.set_cons_succ]
              refine wpAnyH_take (i := 2) (v := .pointer (some ⟨mb, mo + q, none⟩)) rfl (by kernel_rfl) (by kernel_rfl) (by kernel_rfl) (fun _ _ _ h => h) (Or.inl ⟨by rfl, fun w' hS => by go_simp⟩) hHeld ?_
              simp only [Act.put, List.getElem_toArray, List.getElem_cons_zero, List.getElem_cons_succ, List.setIfInBounds_toArray, List.set_cons_zero, List.set_cons_succ]
              refine wpAnyH_take (i := 3) (v := .slice (some ⟨mg, z0, none⟩) (j + 1) c2) rfl (by kernel_rfl) (by kernel_rfl) (by kernel_rfl) (fun _ _ _ h => h) (Or.inl ⟨by rfl, fun w' hS => by (obtain ⟨s0, s1, s2⟩ := hS; go_simp)⟩) hHeld ?_
              simp only [Act.put, List.getElem_toArray, List.getElem_cons_zero, List.getElem_cons_succ, List.setIfInBounds_toArray, List.set_cons_zero, List.set_cons_succ]
              refine wpAnyH_take (i := 4) (v := .slice (some ⟨b, off, none⟩) i lc) rfl (by kernel_rfl) (by kernel_rfl) (by kernel_rfl) (fun _ _ _ h => h) (Or.inl ⟨by rfl, fun w' hS => by go_simp⟩) hHeld ?_
              simp only [Act.put, List.getElem_toArray, List.getElem_cons_zero, List.getElem_cons_succ, List.setIfInBounds_toArray, List.set_cons_zero, List.set_cons_succ]
              refine wpAnyH_take (i := 5) (v := .int .i64 (q : Int)) rfl (by kernel_rfl) (by kernel_rfl) (by kernel_rfl) (fun _ _ _ h => h) (Or.inl ⟨by rfl, fun w' hS => by go_simp⟩) hHeld ?_
              simp only [Act.put, List.getElem_toArray, List.getElem_cons_zero, List.getElem_cons_succ, List.setIfInBounds_toArray, List.set_cons_zero, List.set_cons_succ]
              refine wpAnyH_take (i := 6) (v := .pointer (some ⟨b, off + q * 4, none⟩)) rfl (by kernel_rfl) (by kernel_rfl) (by kernel_rfl) (fun _ _ _ h => h) (Or.inl ⟨by rfl, fun w' hS => by go_simp⟩) hHeld ?_
              simp only [Act.put, List.getElem_toArray, List.getElem_cons_zero, List.getElem_cons_succ, List.setIfInBounds_toArray, List.set_cons_zero, List.set_cons_succ]
              refine wpAnyH_take (i := 7) (v := .pointer (some ⟨b, off + q * 4 + 3, none⟩)) rfl (by kernel_rfl) (by kernel_rfl) (by kernel_rfl) (fun _ _ _ h => h) (Or.inl ⟨by rfl, fun w' hS => by go_simp⟩) hHeld ?_
              simp only [Act.put, List.getElem_toArray, List.getElem_cons_zero, List.getElem_cons_succ, List.setIfInBounds_toArray, List.set_cons_zero, List.set_cons_succ]
              refine wpAnyH_take (i := 8) (v := .slice x.ba j x.bc) rfl (by kernel_rfl) (by kernel_rfl) (by kernel_rfl) (fun _ _ _ h => h) (Or.inl ⟨by rfl, fun w' hS => by (obtain ⟨s0, s1, s2⟩ := hS; go_simp)⟩) hHeld ?_
              simp only [Act.put, List.getElem_toArray, List.getElem_cons_zero, List.getElem_cons_succ, List.setIfInBounds_toArray, List.set_cons_zero, List.set_cons_succ]
              refine wpAnyH_take (i := 9) (v := .int .i64 (j : Int)) rfl (by kernel_rfl) (by kernel_rfl) (by kernel_rfl) (fun _ _ _ h => h) (Or.inl ⟨by rfl, fun w' hS => by go_simp⟩) hHeld ?_
              simp only [Act.put, List.getElem_toArray, List.getElem_cons_zero, List.getElem_cons_succ, List.setIfInBounds_toArray, List.set_cons_zero, List.set_cons_succ]
              refine wpAnyH_take (i := 10) (v := .pointer (some ⟨mg, z0 + j, none⟩)) rfl (by kernel_rfl) (by kernel_rfl) (by kernel_rfl) (fun _ _ _ h => h) (Or.inl ⟨by rfl, fun w' hS => by (first | (go_simp; done) | (go_simp; omega))⟩) hHeld ?_
              simp only [Act.put, List.getElem_toArray, List.getElem_cons_zero, List.getElem_cons_succ, List.setIfInBounds_toArray, List.set_cons_zero, List.set_cons_succ]
              refine wpAnyH_take (i := 11) (v := .int .u8 (100 + (q : Int))) rfl (by kernel_rfl) (by kernel_rfl) (by kernel_rfl) (fun _ _ _ h => h) (Or.inl ⟨by rfl, fun w' hS => by (obtain ⟨s0, s1, s2⟩ := hS; go_simp)⟩) hHeld ?_
              simp only [Act.put, List.getElem_toArray, List.getElem_cons_zero, List.getElem_cons_succ, List.setIfInBounds_toArray, List.set_cons_zero, List.set_cons_succ]
              refine wpAnyH_take (i := 12) (v := .int .i64 (q : Int)) rfl (by kernel_rfl) (by kernel_rfl) (by kernel_rfl) (fun _ _ _ h => h) (Or.inl ⟨by rfl, fun w' hS => by go_simp⟩) hHeld ?_
              simp only [Act.put, List.getElem_toArray, List.getElem_cons_zero, List.getElem_cons_succ, List.setIfInBounds_toArray, List.set_cons_zero, List.set_cons_succ]
              refine wpAnyH_take (i := 13) (v := .int .i64 (100 + (q : Int))) rfl (by kernel_rfl) (by kernel_rfl) (by kernel_rfl) (fun _ _ _ h => h) (Or.inl ⟨by rfl, fun w' hS => by (go_simp <;> exact wrap_id (by omega) (by omega))⟩) hHeld ?_
              simp only [Act.put, List.getElem_toArray, List.getElem_cons_zero, List.getElem_cons_succ, List.setIfInBounds_toArray, List.set_cons_zero, List.set_cons_succ]
              refine wpAnyH_take (i := 14) (v := .int .u8 (100 + (q : Int))) rfl (by kernel_rfl) (by kernel_rfl) (by kernel_rfl) (fun _ _ _ h => h) (Or.inl ⟨by rfl, fun w' hS => by (go_simp <;> exact u8_id (by omega) (by omega))⟩) hHeld ?_
              simp only [Act.put, List.getElem_toArray, List.getElem_cons_zero, List.getElem_cons_succ, List.setIfInBounds_toArray, List.set_cons_zero, List.set_cons_succ]
              refine wpAnyH_take (i := 15) (v := .bool false) rfl (by kernel_rfl) (by kernel_rfl) (by kernel_rfl) (fun _ _ _ h => h) (Or.inl ⟨by rfl, fun w' hS => by (first | (go_simp; done) | (go_simp; simp))⟩) hHeld ?_
              simp only [Act.put, List.getElem_toArray, List.getElem_cons_zero, List.getElem_cons_succ, List.setIfInBounds_toArray, List.set_cons_zero, List.set_cons_succ]
              refine wpAnyH_done (by kernel_rfl) ?_ _
              clear hHeld
              go_wp2
              exact ⟨⟨q + 1, by omega, by go_num, HB.out.still (drew_bel _)⟩, by simp [intOf]; omega⟩
        · obtain rfl : q = i := by omega
          obtain ⟨-, p12⟩ := HqX.out _ HB.out.b
          have HSx := HSd.out _ HB.out.b
          go_wp2_with (first
            | (go_at_call 21; refine HSx.mono ?_; rintro e Y1 ⟨rfl, hy1⟩)
            | fail)
          go_ret
          exact ⟨rfl, bstep HB1.out (bstep (bstep BW3.out HB.out.b) hy1)⟩
end
end Go.Proofs.Yteeoffbjjifleaa.Fm
