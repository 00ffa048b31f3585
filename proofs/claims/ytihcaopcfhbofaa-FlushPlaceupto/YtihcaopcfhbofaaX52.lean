import Derived.Test.YtihcaopcfhbofaaX50
import Derived.Test.YtihcaopcfhbofaaX48
import Derived.Test.YtihcaopcfhbofaaX39
import Derived.Test.YtihcaopcfhbofaaX37
import Derived.Test.YtihcaopcfhbofaaX47
import Derived.Test.YtihcaopcfhbofaaX35
import Derived.Test.YtihcaopcfhbofaaX44
import Derived.Test.YtihcaopcfhbofaaX45
import Derived.Test.YtihcaopcfhbofaaX46
import Derived.Test.YtihcaopcfhbofaaX40
import Derived.Test.YtihcaopcfhbofaaX31
import Derived.Test.YtihcaopcfhbofaaX30
import Derived.Test.YtihcaopcfhbofaaX51
import Derived.Deep.CutBlock
namespace Go.Proofs.Ytihcaopcfhbofaa.Fm
open Go.RowKit Go.Maps Mb
set_option linter.unusedVariables false
set_option maxRecDepth 100000
set_option linter.unusedSimpArgs false
section
variable {w w' W : World} {B : Nat}
theorem zCa : (Try.prog.info? 31).map (·.zero) = some (some (.agg #[.slice none 0 0, .int .i64 0, .int .i64 0, .int .i64 0, .int .i64 0, .int .i64 0, .slice none 0 0, .slice none 0 0, .int .i64 0, .slice none 0 0, .int .i64 0, .int .i64 0, .slice none 0 0])) := by kernel_rfl
theorem info_ca : (Try.prog.info? 31).map (·.size) = some 13 := by kernel_rfl
theorem oneBys : (Try.prog.info? 35).map (·.size) = some 1 := by kernel_rfl
theorem caOne (k : Ca) : ∀ u ∈ k.cs, u.oneCell' = true := by
  intro u hu
  simp only [Ca.cs, List.mem_cons, List.not_mem_nil, or_false] at hu
  rcases hu with rfl | rfl | rfl | rfl | rfl | rfl | rfl | rfl | rfl | rfl | rfl | rfl | rfl <;> rfl
theorem own_one {B t g : Nat} {l : List Value} (h : w.heap[g]? = some (.cells l.toArray t (0, 0))) (hB : B ≤ g) : w.ownsRow B t l.length (.slice (some ⟨g, 0, none⟩) 1 1) 1 l := ⟨by simp, .inr ⟨g, 1, l.toArray, rfl, hB, h, Nat.le_refl _, by unfold maxLen; omega, by simp, by simp⟩⟩
theorem one_own {B t s g : Nat} {l : List Value} (h : w.ownsRow B t s (.slice (some ⟨g, 0, none⟩) 1 1) 1 l) : w.heap[g]? = some (.cells l.toArray t (0, 0)) := by
  rcases h.2 with ⟨e, h0⟩ | ⟨g', cap, cur, hv, hB, hg, hnc, hcm, hcs, htk⟩
  · cases e
  · simp only [Value.slice.injEq, Option.some.injEq, Addr.mk.injEq, and_true] at hv
    obtain ⟨⟨rfl, -⟩, -, rfl⟩ := hv
    rw [hg]
    have : cur.toList = l := by rw [← htk, List.take_of_length_le (by rw [Array.length_toList, hcs]; omega)]
    rw [← this]
theorem Rm.lists {xs : List Fl} {ow wf : Fl} {n : Nat} (h : xs.length = n) : ((xs ++ [ow, wf]).drop 0).take n = xs ∧ ((xs ++ [ow, wf]).drop n).take 1 = [ow] ∧ (xs ++ [ow, wf]).getD (n + 1) fl0 = wf := by
  refine ⟨?_, ?_, ?_⟩
  · rw [List.drop_zero, List.take_append_of_le_length (by omega), List.take_of_length_le (by omega)]
  · rw [List.drop_append_of_le_length (by omega), List.drop_of_length_le (by omega)]
    rfl
  · simp [List.getD, List.getElem?_append, ← h]
theorem PlS.other {V : World} {n ga ca go co dn : Nat} {dv wv v' : Value} {L : List Fl} {ms : List Dx} {t' k' n' : Nat} {l' : List Value} (h : PlS V B n ga ca go co dn dv w L ms wv) (ho : w.ownsRow B t' k' v' n' l') (e1 : 70 ≠ t') (e2 : 3 ≠ t') (e3 : 28 ≠ t') (e4 : 37 ≠ t') (e5 : 5 ≠ t') (hk : Kept w w' (fun j => v'.ownBlock = some j)) : PlS V B n ga ca go co dn dv w' L ms wv :=
  ⟨Nat.le_trans h.hB hk.size, h.len, ⟨h.m.s.keptT ho hk e1, h.m.h.keptT ho hk e2, h.m.g⟩, own_keptT h.ra ho hk e3, own_keptT h.ro ho hk e3, h.ne, h.wv, ⟨h.g.len, own_keptT h.g.row ho hk e4, h.g.f.keptT ho hk e5, h.g.g⟩, h.v, h.b.trans ((hk.below h.hB (fun q hq e => by have := (row_cells ho e).1; omega)).mono h.v)⟩
theorem PlS.start {V V1 V2 V3 V4 V5 : World} {n ga ca go co : Nat} {xs fs : List Fl} {ow f1 : Fl} {who : List Int} {wa da : Option Addr} {wc dc : Nat} {ms : List Dx} (ha : Mf V V1 n (.slice (some ⟨ga, 0, none⟩) n ca) xs fs) (hV2 : Below V1.heap.size V1 V2) (hb : Mf V2 V3 1 (.slice (some ⟨go, 0, none⟩) 1 co) [ow] [f1]) (ho : V4.ownsRow V3.heap.size 3 1 (.slice wa who.length wc) who.length (ints who)) (hV4 : Below V3.heap.size V3 V4) (hm : MoT 37 V4.heap.size V5 (.slice da ms.length dc) ms) (hV5 : Below V4.heap.size V4 V5) (hg : ∀ i, i < ms.length → (i64B (ms.getD i dx0).s.1 ∧ i64B (ms.getD i dx0).s.2) ∧ (ms.getD i dx0).bs.length ≤ 1048576) (hfs : ∀ i, i < n → Bd64 (fs.getD i fl0)) (hf1 : Bd64 f1) (hwl : who.length ≤ 1048576) : PlS V V.heap.size n ga ca go co ms.length (.slice da ms.length dc) V5 (xs ++ [ow, ⟨⟨v0, 0, [], who⟩, none, 0, wa, wc⟩]) ms (.slice wa who.length wc) := by
  have hR := Rm.start (wv := .bool true) (B := V.heap.size) (w := V3) (Nat.le_refl _) ha hV2 hb (Below.refl _ _) ho hV4 hfs hf1 hwl
  obtain ⟨l1, l2, l3⟩ := Rm.lists (ow := ow) (wf := ⟨⟨v0, 0, [], who⟩, none, 0, wa, wc⟩) ha.len
  have b13 : Below V1.heap.size V1 V3 := bstep hV2 hb.b
  have b14 : Below V1.heap.size V1 V4 := bstep b13 hV4
  have b15 : Below V1.heap.size V1 V5 := bstep b14 hV5
  have b35 : Below V3.heap.size V3 V5 := bstep hV4 hV5
  have s1 := ha.b.size
  have s2 := b14.size
  have s3 := b15.size
  have s4 := hV2.size
  refine ⟨by omega, by simp [ha.len], hR.still hV5, by rw [l1]; exact own_still ha.o b15, by rw [l2]; exact own_lower (own_still (by simpa [flCells] using hb.o) b35) (by omega), ?_, by rw [l3]; rfl, Mg.of ⟨own_lower hm.row (by omega), fun i hi => own_lower (hm.el i hi) (by omega), hm.dis⟩ hg, Nat.le_refl _, bstep ha.b b15⟩
  have h1 : ga < V1.heap.size := by
    obtain ⟨_, cur, hc⟩ := row_cells ha.o (show (Value.slice (some ⟨ga, 0, none⟩) n ca).ownBlock = some ga from rfl)
    exact (Array.getElem?_eq_some_iff.1 hc).1
  have h2 : V2.heap.size ≤ go := (row_cells hb.o (show (Value.slice (some ⟨go, 0, none⟩) 1 co).ownBlock = some go from rfl)).1
  omega
set_option maxHeartbeats 16000000 in
theorem flushPlace_any {k k2 : Ca} {who who2 : List Int} {ds ds2 : List Dx} (h1 : Cin k who ds w) (h2 : Cin k2 who2 ds2 w) : Calls Try.prog 3 #[.agg k.cs.toArray, .agg k2.cs.toArray] w fun e w' => e = .returned (.bool true) ∧ Below w.heap.size w w' := by
  generalize hW1 : w.alloc (.cells k.cs.toArray 31) = W1
  generalize hW2 : W1.alloc (.cells k2.cs.toArray 31) = W2
  have b1 : Below w.heap.size w W1 := hW1 ▸ balloc (Below.refl _ _)
  have b2 : Below W1.heap.size W1 W2 := hW2 ▸ balloc (Below.refl _ _)
  have p1 : W2.heap[w.heap.size]? = some (.cells k.cs.toArray 31 (0, 0)) := blk_on b2 (by rw [← hW1]; exact heap_alloc_new w _)
  have p2 : W2.heap[W1.heap.size]? = some (.cells k2.cs.toArray 31 (0, 0)) := by rw [← hW2]; exact heap_alloc_new W1 _
  have HB : Hid (Below w.heap.size w W2) := bstep b1 b2
  have HC1 : Hid (Cin k who ds W2) := (h1.still b1).still b2
  have HC2 : Hid (Cin k2 who2 ds2 W2) := (h2.still b1).still b2
  have HP1 : Hid (∀ X, Below W2.heap.size W2 X → X.heap[w.heap.size]? = some (.cells k.cs.toArray 31 (0, 0))) := fun X hX => blk_on hX p1
  have HP2 : Hid (∀ X, Below W2.heap.size W2 X → X.heap[W1.heap.size]? = some (.cells k2.cs.toArray 31 (0, 0))) := fun X hX => blk_on hX p2
  have q10 : W2.cell? ⟨w.heap.size, 0, none⟩ = some (.slice k.ao k.fs.length k.cp) := blk_cell p1 0
  have q20 : W2.cell? ⟨W1.heap.size, 0, none⟩ = some (.slice k2.ao k2.fs.length k2.cp) := blk_cell p2 0
  obtain ⟨ii, ihi, ihz0, ihz1, ihz2⟩ := int_info
  clear h1 h2 b1 b2 p1 p2
  generalize hpc : k.cs.toArray = pc at hW1 HP1 ⊢
  generalize hpd : k2.cs.toArray = pd at hW2 HP2 ⊢
  have Hpc : Hid (k.cs.toArray = pc) := hpc
  have Hpd : Hid (k2.cs.toArray = pd) := hpd
  clear hpc hpd
  obtain ⟨n, hn⟩ : ∃ n, n = if k2.fs.length < k.fs.length then k2.fs.length else k.fs.length := ⟨_, rfl⟩
  have HN : Hid (n = if k2.fs.length < k.fs.length then k2.fs.length else k.fs.length) := hn
  have hnk : n ≤ k.fs.length := by rw [hn]; split <;> omega
  have hn20 : n ≤ 1048576 := Nat.le_trans hnk HC1.out.fl
  clear hn
  go_enter Try.func3, Try.ntmps3
  go_upto_if 37 with fail
  clear hW1 hW2
  generalize hkb : w.heap.size = kb at *
  generalize hdb : W1.heap.size = db at *
  have Hkb : Hid (w.heap.size = kb) := hkb
  clear hkb hdb
  go_cut [5] (fun v wx => v = .int .i64 (n : Int) ∧ wx = W2)
  case first =>
    by_cases hlt : k2.fs.length < k.fs.length
    · have i1 : (k2.fs.length : Int) < (k.fs.length : Int) := by omega
      have e1 : n = k2.fs.length := by rw [HN.out, if_pos hlt]
      clear hlt
      go_wp2
      go_meet
      exact ⟨by rw [e1], rfl⟩
    · have i1 : ¬ (k2.fs.length : Int) < (k.fs.length : Int) := by omega
      have e1 : n = k.fs.length := by rw [HN.out, if_neg hlt]
      clear hlt
      go_wp2
      go_meet
      exact ⟨by rw [e1], rfl⟩
  case rest =>
  obtain ⟨rfl, rfl⟩ := hcut
  generalize hVb : wc = Vb at *
  clear hVb
  have HAz : Hid ((k.ao = none ∧ k.fs.length = 0 ∧ k.cp = 0 ∧ n = 0) ∨ ∃ ad, k.ao = some ad) := by
    cases hao : k.ao with
    | none => exact .inl ⟨rfl, (HC1.out.az hao).1, (HC1.out.az hao).2, by have := (HC1.out.az hao).1; omega⟩
    | some ad => exact .inr ⟨ad, rfl⟩
  have i0 : (0 : Int) ≤ (n : Int) := Int.natCast_nonneg _
  have i1 : (n : Int) ≤ (k.cp : Int) := by have := HC1.out.cap.1; omega
  have HMy : Hid (Calls Try.prog 4 #[.slice k.ao n k.cp] Vb fun e w' => ∃ a c xs, e = .returned (.slice (some ⟨a, 0, none⟩) n c) ∧ Mf Vb w' n (.slice (some ⟨a, 0, none⟩) n c) xs (k.fs.take n)) := by
    have hl : (k.fs.take n).length = n := by rw [List.length_take]; omega
    have := many_fam (cp := k.cp) (HC1.out.r.take hnk) (fun j hj => by
      rw [hl] at hj
      have e : (k.fs.take n).getD j fl0 = k.fs.getD j fl0 := by simp [List.getD, List.getElem?_take, hj]
      rw [e]
      exact HC1.out.i j (by omega)) (by rw [hl]; exact hn20)
    rw [hl] at this
    exact this
  have Hfb : Hid (∀ i, i < n → Bd64 ((k.fs.take n).getD i fl0)) := fun j hj => by
    have e : (k.fs.take n).getD j fl0 = k.fs.getD j fl0 := by simp [List.getD, List.getElem?_take, hj]
    rw [e]
    have := HC1.out.i j (by omega)
    exact ⟨this.rd.r, this.rd.b, this.sn, this.hn⟩
  generalize k.fs.length = fn at *
  generalize hao : k.ao = ao at *
  generalize hcp : k.cp = cp at *
  clear hao hcp
  go_wp2_with (first | (refine wl_at 44 rfl ?_) | fail)
  refine wl_take (v := .slice ao n cp) (by kernel_rfl) (by (rcases HAz.out with ⟨rfl, rfl, rfl, rfl⟩ | ⟨ad, rfl⟩ <;> go_simp <;> first | done | (split <;> first | rfl | (simp_all; done) | omega))) ?_
  simp only [Act.put, gA9, gZ9, gC9, sA9, sZ9, sC9]
  refine ⟨?_⟩
  have Hl7 : Hid (k.own.cs.length = 7) := rfl
  have HLo : Hid (∀ X, Below Vb.heap.size Vb X → X.rangeAt kb 1 k.own.cs) := fun X hX => Ca.own_at (by rw [Hpc.out]; exact HP1.out X hX)
  have HQ : Hid (∀ X, Below Vb.heap.size Vb X → X.cell? ⟨kb, 9, none⟩ = some (.slice k.wa k.wn k.wc) ∧ X.cell? ⟨kb, 12, none⟩ = some (.slice k.ma k.mn k.mc)) := fun X hX => by
    have h := HP1.out X hX
    rw [← Hpc.out] at h
    exact ⟨blk_cell h 9, blk_cell h 12⟩
  have HM1 : Hid (∀ (X Z : World) g, Below Vb.heap.size Vb X → Below X.heap.size X Z → Z.heap[g]? = some (.cells k.own.cs.toArray 28 (0, 0)) → Calls Try.prog 4 #[.slice (some ⟨g, 0, none⟩) 1 1] Z fun e w' => ∃ a c xs, e = .returned (.slice (some ⟨a, 0, none⟩) 1 c) ∧ Mf Z w' 1 (.slice (some ⟨a, 0, none⟩) 1 c) xs [k.own]) := fun X Z g hX hZ hg => by
    have ho := (HC1.out.o.still hX).still hZ
    exact many_fam (cp := 1) (fs := [k.own]) (rd_one hg ho.rd) (fun j hj => by
      have hj0 : j = 0 := by simpa using hj
      subst hj0
      exact ho) (by simp)
  have HDa : Hid (∀ X, Below Vb.heap.size Vb X → Calls Try.prog 5 #[.slice k.ma k.mn k.mc] X fun e w' => ∃ a c out, e = .returned (.slice a (out : List Dx).length c) ∧ MoT 37 X.heap.size w' (.slice a out.length c) out ∧ Al out ds ∧ Below X.heap.size X w') := fun X hX => by
    have := datas_any (cp := k.mc) ((HC1.out.still hX).d) (by rw [HC1.out.dl]; exact HC1.out.dn) (fun i hh => ⟨(HC1.out.di i hh).z, (HC1.out.di i hh).n⟩)
    rw [HC1.out.dl] at this
    exact this
  have HWz : Hid (k.wa = none → k.wn = 0 ∧ k.wc = 0) := HC1.out.wz
  have HWl : Hid (who.length = k.wn) := HC1.out.wl
  have hwn : k.wn ≤ 1048576 := HC1.out.wn
  go_upto_region 6 with (first
    | (go_at_call 4; have hz := BZ1; refine (HM1.out _ _ _ BV1.out BZ1.out KZ1.out).mono ?_; rintro e V3 ⟨go, co, xo, rfl, hmf2⟩; have HMf2 : Hid (Mf Z1 V3 1 (.slice (some ⟨go, 0, none⟩) 1 co) xo [k.own]) := hmf2; clear hmf2 hz)
    | (go_at_call 4; refine HMy.out.mono ?_; rintro e V1 ⟨ga, ca, xs, rfl, hmf⟩; have HMf : Hid (Mf Vb V1 n (.slice (some ⟨ga, 0, none⟩) n ca) xs (k.fs.take n)) := hmf; have BV1 : Hid (Below Vb.heap.size Vb V1) := hmf.b; clear hmf)
    | (refine load_mid 28 (.tmp 46) (HLo.out _ BV1.out) _ Try.underlying28 rfl (by rw [Hl7.out]; exact info_flush) rfl rfl rfl ?_)
    | (refine wl_bsl rfl 22 28 1 _ rfl Try.underlying22 k.own.cs.toArray (bsl_eq (by kernel_rfl) (bFl k.own)) ?_; intro Z1 kz1 bz1 sz1; have KZ1 : Hid (Z1.heap[V1.heap.size]? = some (.cells k.own.cs.toArray 28 (0, 0))) := kz1; have BZ1 : Hid (Below V1.heap.size V1 Z1) := bz1; clear kz1 bz1 sz1)
    | fail)
  have BV3 : Hid (Below Vb.heap.size Vb V3) := bstep (bstep BV1.out BZ1.out) HMf2.out.b
  obtain ⟨q9, -⟩ := HQ.out (V3.alloc (.cells #[] 3)) (balloc BV3.out)
  have HWv : Hid (RdI V3 k.wa who) := HC1.out.w.still BV3.out
  clear q10 q20
  go_upto_region 7 with (first
    | (at_builtin; refine copy_app rfl _ _ 26 3 rfl ii (.int .i64 0) 1 8 Try.underlying26 ihi ihz0 ihz1 ihz2 rfl (by omega) rfl k.wa k.wn k.wc (ints who) rfl HWz.out (by rw [ints_len, HWl.out, Nat.mul_one]) (rdI_news HWv.out) (ints_one _) (by unfold maxLen; omega) (by omega) ?_; intro a2 c2 V4 hbv4 hov4; have BV34 : Hid (Below V3.heap.size V3 V4) := hbv4; have HO4 : Hid (V4.ownsRow V3.heap.size 3 1 (.slice a2 k.wn c2) k.wn (ints who)) := hov4; clear hbv4 hov4)
    | fail)
  have BV4 : Hid (Below Vb.heap.size Vb V4) := bstep BV3.out BV34.out
  clear q9
  obtain ⟨-, q12⟩ := HQ.out V4 BV4.out
  have HDa4 : Hid (Calls Try.prog 5 #[.slice k.ma k.mn k.mc] V4 fun e w' => ∃ a c out, e = .returned (.slice a (out : List Dx).length c) ∧ MoT 37 V4.heap.size w' (.slice a out.length c) out ∧ Al out ds ∧ Below V4.heap.size V4 w') := HDa.out V4 BV4.out
  go_upto_region 8 with (first
    | (go_at_call 5; refine HDa4.out.mono ?_; rintro e V5 ⟨da, dc, dm, rfl, hmo, hal, hy5⟩; have HMo : Hid (MoT 37 V4.heap.size V5 (.slice da dm.length dc) dm) := hmo; have HAl : Hid (Al dm ds) := hal; have BV45 : Hid (Below V4.heap.size V4 V5) := hy5; clear hmo hal hy5)
    | fail)
  obtain ⟨ow, rfl⟩ : ∃ ow, xo = [ow] := List.length_eq_one_iff.1 HMf2.out.len
  have HPl : Hid (∃ L ms, PlS Vb Vb.heap.size n ga ca go co dm.length (.slice da dm.length dc) V5 L ms (.slice a2 k.wn c2)) := by
    have ho := HO4.out
    rw [← HWl.out] at ho ⊢
    exact ⟨_, _, PlS.start HMf.out BZ1.out HMf2.out ho BV34.out HMo.out BV45.out (fun i hi => by
      have hi' : i < ds.length := by rw [← HAl.out.len]; exact hi
      have := HAl.out.el i hi'
      refine ⟨?_, ?_⟩
      · rw [this.1]; exact (HC1.out.di i hi').rd.r
      · rw [this.2.2]; exact (HC1.out.di i hi').n) Hfb.out ⟨HC1.out.o.rd.r, HC1.out.o.rd.b, HC1.out.o.sn, HC1.out.o.hn⟩ (by rw [HWl.out]; exact hwn)⟩
  have Hdn9 : Hid (dm.length ≤ 1048576) := (show dm.length ≤ 1048576 from by rw [HAl.out.len, HC1.out.dl]; exact HC1.out.dn)
  generalize dm.length = dn at *
  clear q12 HDa4 HDa HM1 HQ HLo HMy HAz HO4 HMf HMf2 HMo HAl BV45 BV4 BV34 BV3 BZ1 KZ1 BV1 HWv
  go_wp2
  go_loopw [8, 10] (fun wv i wr => ∃ (t : Nat) (L : List Fl) (ms : List Dx), t ≤ 3 ∧ i = .int .i64 t ∧ PlS Vb Vb.heap.size n ga ca go co dn (.slice da dn dc) wr L ms wv) (fun _ i _ => 3 - (intOf i).toNat)
  case atStart =>
    obtain ⟨L, ms, h⟩ := HPl.out
    exact ⟨0, L, ms, Nat.zero_le _, rfl, h⟩
  case round =>
    as_aux_lemma =>
    obtain ⟨t, L, ms, ht, rfl, hpl⟩ := hrel
    have HL : Hid (PlS Vb Vb.heap.size n ga ca go co dn (.slice da dn dc) wr L ms u8) := hpl
    clear hpl HPl
    have i2 : (0 : Int) ≤ (t : Int) := Int.natCast_nonneg _
    by_cases hlt : t < 3
    · have i3 : (t : Int) < 3 := by omega
      have HR1 : Hid (∀ X, Below wr.heap.size wr X → X.rangeAt kb 0 k.cs) := fun X hX => blk_range (by rw [Hpc.out]; exact HP1.out X (bstep HL.out.b hX))
      have HR2 : Hid (∀ X, Below wr.heap.size wr X → X.rangeAt db 0 k2.cs) := fun X hX => blk_range (by rw [Hpd.out]; exact HP2.out X (bstep HL.out.b hX))
      have Hk13 : Hid (k.cs.length = 13 ∧ k2.cs.length = 13) := ⟨rfl, rfl⟩
      go_upto_region 12 with (first
        | (refine load_mid 31 (.tmp 2) (HR1.out wr (Below.refl _ _)) _ Try.underlying31 rfl (by rw [Hk13.out.1]; exact info_ca) rfl rfl rfl ?_)
        | (refine wl_allocZ rfl 31 rfl zCa ?_; intro Y1 ky1 by1 sy1; have KY1 : Hid _ := ky1; have BY1 : Hid (Below wr.heap.size wr Y1) := by1; clear ky1 by1 sy1)
        | (refine wl_storeZ rfl 31 _ _ rfl (L := k.cs) rfl rfl KY1.out (by rw [Hk13.out.1]; exact info_ca) (by rw [Hk13.out.1]; rfl) (caOne k) ?_; intro Y2 ky2 hky2; have KY2 : Hid (Y2.heap[wr.heap.size]? = some (.cells k.cs.toArray 31 (0, 0))) := ky2; have BY2 : Hid (Below wr.heap.size wr Y2) := BY1.out.trans (hky2.below BY1.out.size (fun q hq e => by omega)); clear ky2 hky2)
        | fail)
      generalize hxb : wr.heap.size = xb at *
      have Hxb : Hid (wr.heap.size = xb) := hxb
      have HL2 : Hid (PlS Vb Vb.heap.size n ga ca go co dn (.slice da dn dc) Y2 L ms u8) := HL.out.still (by rw [hxb]; exact BY2.out)
      have HxB : Hid (Vb.heap.size ≤ xb) := (show Vb.heap.size ≤ xb from by rw [← hxb]; exact HL.out.hB)
      have HR2y : Hid (Y2.rangeAt db 0 k2.cs) := HR2.out Y2 BY2.out
      clear hxb KY1 BY1
      go_upto_if 63 with fail
      go_cut [11] (fun p wx => p = .pointer (some ⟨xb, 0, none⟩) ∧ ∃ (kk : Ca) (whk : List Int) (dk : List Dx), wx.heap[xb]? = some (.cells kk.cs.toArray 31 (0, 0)) ∧ Cin kk whk dk Vb ∧ PlS Vb Vb.heap.size n ga ca go co dn (.slice da dn dc) wx L ms u8)
      case first =>
        by_cases h1 : t = 1
        · have e1 : ((t : Int) == 1) = true := by rw [h1]; rfl
          clear h1
          go_wp2_with (first
            | (refine load_mid 31 (.tmp 3) HR2y.out _ Try.underlying31 rfl (by rw [Hk13.out.2]; exact info_ca) rfl rfl rfl ?_)
            | (refine wl_storeZ rfl 31 _ _ rfl (L := k2.cs) rfl rfl KY2.out (by rw [Hk13.out.2]; exact info_ca) rfl (caOne k2) ?_; intro Y3 ky3 hky3; have KY3 : Hid (Y3.heap[xb]? = some (.cells k2.cs.toArray 31 (0, 0))) := ky3; have HK3 : Hid (Kept Y2 Y3 (fun j => j = xb)) := hky3; clear ky3 hky3)
            | fail)
          go_meet
          exact ⟨rfl, k2, who2, ds2, KY3.out, HC2.out, HL2.out.other (own_one KY2.out HxB.out) (by decide) (by decide) (by decide) (by decide) (by decide) (HK3.out.mono fun q _ e => by subst e; rfl)⟩
        · have e1 : ((t : Int) == 1) = false := by simp; omega
          clear h1
          go_wp2
          go_meet
          exact ⟨rfl, k, who, ds, KY2.out, HC1.out, HL2.out⟩
      case rest =>
      obtain ⟨rfl, kk, whk, dk, hx, hcin, hpl⟩ := hcut
      have HX : Hid (wc.ownsRow Vb.heap.size 31 13 (.slice (some ⟨xb, 0, none⟩) 1 1) 1 kk.cs) := own_one hx HxB.out
      have HCk : Hid (Cin kk whk dk Vb) := hcin
      have HL3 : Hid (PlS Vb Vb.heap.size n ga ca go co dn (.slice da dn dc) wc L ms u8) := hpl
      have HXc : Hid (∀ (X : World), X.ownsRow Vb.heap.size 31 13 (.slice (some ⟨xb, 0, none⟩) 1 1) 1 kk.cs → X.cell? ⟨xb, 0, none⟩ = some (.slice kk.ao kk.fs.length kk.cp) ∧ X.cell? ⟨xb, 9, none⟩ = some (.slice kk.wa kk.wn kk.wc) ∧ X.cell? ⟨xb, 12, none⟩ = some (.slice kk.ma kk.mn kk.mc) ∧ X.cell? ⟨xb, 8, none⟩ = some (.int .i64 kk.d) ∧ X.cell? ⟨xb, 10, none⟩ = some (.int .i64 kk.self) ∧ X.cell? ⟨xb, 11, none⟩ = some (.int .i64 kk.q) ∧ X.rangeAt xb 1 kk.own.cs) := fun X hX => by
        have h := one_own hX
        exact ⟨blk_cell h 0, blk_cell h 9, blk_cell h 12, blk_cell h 8, blk_cell h 10, blk_cell h 11, Ca.own_at h⟩
      clear hx hcin hpl HL2 HL KY2 BY2 HR1 HR2 HR2y Hk13 Hxb
      have HLd1 : Hid (Calls Try.prog 6 #[.slice (some ⟨ga, 0, none⟩) n ca, .slice kk.ao kk.fs.length kk.cp] wc fun e w' => e = .returned (.tuple #[]) ∧ ∃ L', Ld Vb.heap.size ga ca n 0 L wc w' L') := laid_any HL3.out.hB (by rw [HL3.out.len]; omega) HL3.out.ra HL3.out.m (fun X hX => by
        have hc := HCk.out.still (HL3.out.b.trans hX.b)
        exact ⟨hc.r, hc.i⟩) hn20 HCk.out.fl
      obtain ⟨q0, -, -, -, -, -, -⟩ := HXc.out wc HX.out
      go_upto_region 15 with (first
        | (go_at_call 6; refine HLd1.out.mono ?_; rintro e A1 ⟨rfl, L1, hl1⟩; have HA1 : Hid (Ld Vb.heap.size ga ca n 0 L wc A1 L1) := hl1; clear hl1)
        | fail)
      have HX1 : Hid (A1.ownsRow Vb.heap.size 31 13 (.slice (some ⟨xb, 0, none⟩) 1 1) 1 kk.cs) := HA1.out.k.k _ _ _ _ _ _ (by decide) (by decide) HX.out (fun e => by
        obtain ⟨C, h1, _⟩ := own_heap HL3.out.ra
        have h2 := one_own HX.out
        have e' : some xb = some ga := e
        simp only [Option.some.injEq] at e'
        rw [e', h1] at h2
        simp at h2)
      have HLa : Hid (PlS Vb Vb.heap.size n ga ca go co dn (.slice da dn dc) A1 L1 ms u8) := HL3.out.laid1 HA1.out
      clear q0 HLd1
      obtain ⟨-, -, -, -, -, -, ro⟩ := HXc.out A1 HX1.out
      have HRo : Hid (A1.rangeAt xb 1 kk.own.cs) := ro
      have Ho7 : Hid (kk.own.cs.length = 7) := rfl
      clear ro
      have HLd2 : Hid (∀ Z g, Below A1.heap.size A1 Z → A1.heap.size ≤ g → Z.heap[g]? = some (.cells kk.own.cs.toArray 28 (0, 0)) → Calls Try.prog 6 #[.slice (some ⟨go, 0, none⟩) 1 co, .slice (some ⟨g, 0, none⟩) 1 1] Z fun e w' => e = .returned (.tuple #[]) ∧ ∃ L', Ld Vb.heap.size go co 1 n L1 Z w' L') := fun Z g hZ hg0 hg => by
        have hl := HLa.out.still hZ
        exact laid_any (ls := [kk.own]) hl.hB (by rw [hl.len]; omega) hl.ro hl.m (fun X hX => by
          have hc := HCk.out.still (hl.b.trans hX.b)
          have ho := own_one (B := 0) hg (Nat.zero_le _)
          have hx2 := one_own (hX.k _ _ _ _ _ _ (by decide) (by decide) ho (fun e => by
            have e' : some g = some go := e
            simp only [Option.some.injEq] at e'
            have h1 : go < A1.heap.size := by
              obtain ⟨_, cur, hcc⟩ := row_cells HLa.out.ro (show (Value.slice (some ⟨go, 0, none⟩) 1 co).ownBlock = some go from rfl)
              exact (Array.getElem?_eq_some_iff.1 hcc).1
            omega))
          exact ⟨rd_one hx2 hc.o.rd, fun j hj => by
            have hj0 : j = 0 := by simpa using hj
            subst hj0
            exact hc.o⟩) (by omega) (by simp)
      go_upto_region 16 with (first
        | (refine load_mid 28 (.tmp 70) HRo.out _ Try.underlying28 rfl (by rw [Ho7.out]; exact info_flush) rfl rfl rfl ?_)
        | (refine wl_bsl rfl 22 28 1 _ rfl Try.underlying22 kk.own.cs.toArray (bsl_eq (by kernel_rfl) (bFl kk.own)) ?_; intro Z1 kz1 bz1 sz1; have KZ1 : Hid (Z1.heap[A1.heap.size]? = some (.cells kk.own.cs.toArray 28 (0, 0))) := kz1; have BZ1 : Hid (Below A1.heap.size A1 Z1) := bz1; clear kz1 bz1 sz1)
        | (go_at_call 6; refine (HLd2.out Z1 _ BZ1.out (Nat.le_refl _) KZ1.out).mono ?_; rintro e A2 ⟨rfl, L2, hl2⟩; have HA2 : Hid (Ld Vb.heap.size go co 1 n L1 Z1 A2 L2) := hl2; clear hl2)
        | fail)
      have HX2 : Hid (A2.ownsRow Vb.heap.size 31 13 (.slice (some ⟨xb, 0, none⟩) 1 1) 1 kk.cs) := HA2.out.k.k _ _ _ _ _ _ (by decide) (by decide) (own_still HX1.out BZ1.out) (fun e => by
        obtain ⟨C, h1, _⟩ := own_heap HLa.out.ro
        have h2 := one_own HX1.out
        have e' : some xb = some go := e
        simp only [Option.some.injEq] at e'
        rw [e', h1] at h2
        simp at h2)
      have HLb : Hid (PlS Vb Vb.heap.size n ga ca go co dn (.slice da dn dc) A2 L2 ms u8) := (HLa.out.still BZ1.out).laid2 HA2.out
      clear HLd2 HRo KZ1 BZ1 HA2 HA1 HX HX1 HL3 HLa
      obtain ⟨W0, hW0⟩ : ∃ W0, W0 = wr := ⟨_, rfl⟩
      subst hW0
      obtain ⟨ii, ihi, ihz0, ihz1, ihz2⟩ := int_info
      obtain ⟨ua, uc, uh, hu8, -, -, huO⟩ := HLb.out.wh
      generalize hun : uh.length = un at hu8 huO
      subst hu8
      have HLd : Hid (PlS Vb Vb.heap.size n ga ca go co dn (.slice da dn dc) A2.drew L2 ms (.slice ua un uc)) := HLb.out.still (drew_bel A2)
      have HOu : Hid (A2.drew.ownsRow Vb.heap.size 3 1 (.slice ua un uc) un (ints uh)) := own_still huO (drew_bel A2)
      have HXu : Hid ((ua = none ∧ un = 0 ∧ uc = 0) ∨ ∃ g, ua = some ⟨g, 0, none⟩ ∧ un ≤ uc ∧ uc ≤ 9223372036854775807) := own_nb HOu.out
      have HOz : Hid (A2.drew.ownsRow Vb.heap.size 3 1 (.slice ua 0 uc) 0 []) := own_zero HOu.out
      have HXd : Hid (A2.drew.ownsRow Vb.heap.size 31 13 (.slice (some ⟨xb, 0, none⟩) 1 1) 1 kk.cs) := own_still HX2.out (drew_bel A2)
      have HQ9 : Hid (A2.drew.cell? ⟨xb, 9, none⟩ = some (.slice kk.wa kk.wn kk.wc)) := (HXc.out _ HXd.out).2.1
      have HWi : Hid (∀ ad, kk.wa = some ad → ∀ j u, (ints whk)[j]? = some u → A2.drew.cell? (ad.add j) = some u) := rdI_news (HCk.out.still HLd.out.b).w
      have HBz : Hid (Vb.heap.size ≤ A2.drew.heap.size) := HLd.out.hB
      have HWk : Hid (kk.wa = none → kk.wn = 0 ∧ kk.wc = 0) := HCk.out.wz
      have HWn : Hid (whk.length = kk.wn) := HCk.out.wl
      have hwk := HCk.out.wn
      clear hun huO HLb HX2
      go_wp2_with (fail)
      refine wp_region_held_drew (S := (fun w' => w'.cell? ⟨xb, 9, none⟩ = some (.slice kk.wa kk.wn kk.wc))) (by kernel_rfl) (HQ9.out) (fun hHeld => ?_)
      simp only [Act.put, List.size_toArray, List.length_cons, List.length_nil, Nat.zero_add]
      refine wpAnyH_take (i := 0) (v := .slice ua un uc) rfl (by kernel_rfl) (by kernel_rfl) (by kernel_rfl) (fun _ _ _ h => h) (Or.inl ⟨by rfl, fun w' hS => by go_simp⟩) hHeld ?_
      simp only [Act.put, gA9, gZ9, gC9, sA9, sZ9, sC9]
      refine wpAnyH_take (i := 1) (v := .slice ua 0 uc) rfl (by kernel_rfl) (by kernel_rfl) (by kernel_rfl) (fun _ _ _ h => h) (Or.inl ⟨by rfl, fun w' hS => by (rcases HXu.out with ⟨rfl, rfl, rfl⟩ | ⟨g, rfl, hh1, hh2⟩ <;> go_simp <;> first | done | (split <;> first | rfl | (simp_all; done) | omega))⟩) hHeld ?_
      simp only [Act.put, gA9, gZ9, gC9, sA9, sZ9, sC9]
      refine wpAnyH_take (i := 2) (v := .pointer (some ⟨xb, 9, none⟩)) rfl (by kernel_rfl) (by kernel_rfl) (by kernel_rfl) (fun _ _ _ h => h) (Or.inl ⟨by rfl, fun w' hS => by go_simp⟩) hHeld ?_
      simp only [Act.put, gA9, gZ9, gC9, sA9, sZ9, sC9]
      refine wpAnyH_take (i := 3) (v := .slice kk.wa kk.wn kk.wc) rfl (by kernel_rfl) (by kernel_rfl) (by kernel_rfl) (fun _ _ _ h => h) (Or.inl ⟨by rfl, fun w' hS => by go_simp⟩) hHeld ?_
      simp only [Act.put, gA9, gZ9, gC9, sA9, sZ9, sC9]
      refine wpAnyH_ready (rs := [4]) (by kernel_rfl) (by simp) ?_
      refine AllReadyH.cons rfl (fun K hK => ?_) AllReadyH.nil
      refine step_appO rfl _ _ 26 rfl Vb.heap.size 3 ii (.int .i64 0) 1 8 Try.underlying26 ihi ihz0 ihz1 ihz2 rfl (by omega) (.slice ua 0 uc) rfl HOz.out kk.wa kk.wn kk.wc (ints whk) rfl HWk.out (by rw [ints_len, HWn.out, Nat.mul_one]) HWi.out (ints_one _) (by unfold maxLen; omega) (by omega) HBz.out ?_
      intro a3 c3 Z3 ho3 hk3 he3
      have HO3 : Hid (Z3.ownsRow Vb.heap.size 3 1 (.slice a3 kk.wn c3) kk.wn (ints whk)) := ho3
      have HK3 : Hid (Kept A2.drew Z3 (fun j => (Value.slice ua un uc).ownBlock = some j)) := hk3.mono (fun q _ e => by rw [own_blk ua 0 un uc uc] at e; exact e)
      have HE3 : Hid ((Value.slice a3 kk.wn c3).ownBlock = (Value.slice ua un uc).ownBlock ∨ (Value.slice a3 kk.wn c3).ownBlock = some A2.drew.heap.size) := he3.imp (fun e => by rw [e]; exact own_blk ua 0 un uc uc) id
      have HXz : Hid (Z3.ownsRow Vb.heap.size 31 13 (.slice (some ⟨xb, 0, none⟩) 1 1) 1 kk.cs) := own_keptT HXd.out HOu.out HK3.out (by decide)
      clear ho3 hk3 he3
      refine hK.out _ _ ((HXc.out Z3 HXz.out).2.1) (fun hHeld => ?_)
      clear hK K
      simp only [Act.put, gA9, gZ9, gC9, sA9, sZ9, sC9]
      refine wpAnyH_take (i := 5) (v := .slice a3 kk.wn c3) rfl (by kernel_rfl) (by kernel_rfl) (by kernel_rfl) (fun _ _ _ h => h) (Or.inl ⟨by rfl, fun w' hS => by go_simp⟩) hHeld ?_
      simp only [Act.put, gA9, gZ9, gC9, sA9, sZ9, sC9]
      refine wpAnyH_done (by kernel_rfl) ?_ _
      clear hHeld
      have HPz : Hid (∃ L3, PlS Vb Vb.heap.size n ga ca go co dn (.slice da dn dc) Z3 L3 ms (.slice a3 kk.wn c3)) := by
        have e := HWn.out
        have o := HO3.out
        have b := HE3.out
        rw [← e] at o b ⊢
        exact HLd.out.who (by rw [e]; exact hwk) o HK3.out b
      obtain ⟨L3, hP3⟩ := HPz.out
      have HP3 : Hid (PlS Vb Vb.heap.size n ga ca go co dn (.slice da dn dc) Z3 L3 ms (.slice a3 kk.wn c3)) := hP3
      clear hP3 HPz HLd HOu HXu HOz HXd HQ9 HWi HBz HWk HO3 HK3 HE3
      go_upto_block 2 with fail
      go_cut [12, 13] from 57 to 236 (fun _ _ wx => ∃ mt, PlS Vb Vb.heap.size n ga ca go co dn (.slice da dn dc) wx L3 mt (.slice a3 kk.wn c3) ∧ wx.ownsRow Vb.heap.size 31 13 (.slice (some ⟨xb, 0, none⟩) 1 1) 1 kk.cs)
      case first =>
        go_wp2
        go_loopw [12] (fun i wr => ∃ (c : Nat) (mt : List Dx), c ≤ dn ∧ c ≤ kk.mn ∧ i = .int .i64 c ∧ PlS Vb Vb.heap.size n ga ca go co dn (.slice da dn dc) wr L3 mt (.slice a3 kk.wn c3) ∧ wr.ownsRow Vb.heap.size 31 13 (.slice (some ⟨xb, 0, none⟩) 1 1) 1 kk.cs) (fun i _ => dn - (intOf i).toNat)
        case atStart => exact ⟨0, ms, Nat.zero_le _, Nat.zero_le _, rfl, HP3.out, HXz.out⟩
        case round =>
          as_aux_lemma =>
          obtain ⟨c, mt, hc1, hc2, rfl, hpl, hxr⟩ := hrel
          have HPc : Hid (PlS Vb Vb.heap.size n ga ca go co dn (.slice da dn dc) wr L3 mt (.slice a3 kk.wn c3)) := hpl
          have HXr : Hid (wr.ownsRow Vb.heap.size 31 13 (.slice (some ⟨xb, 0, none⟩) 1 1) 1 kk.cs) := hxr
          clear hpl hxr HP3 HXz
          have j1 : (0 : Int) ≤ (c : Int) := Int.natCast_nonneg _
          obtain ⟨-, -, q12, -, -, -, -⟩ := HXc.out wr HXr.out
          by_cases hlt : c < dn ∧ c < kk.mn
          · obtain ⟨hc3, hc4⟩ := hlt
            have j2 : (c : Int) < (dn : Int) := by omega
            have j3 : (c : Int) < (kk.mn : Int) := by omega
            have HPd : Hid (PlS Vb Vb.heap.size n ga ca go co dn (.slice da dn dc) wr.drew L3 mt (.slice a3 kk.wn c3)) := HPc.out.still (drew_bel wr)
            have HXd : Hid (wr.drew.ownsRow Vb.heap.size 31 13 (.slice (some ⟨xb, 0, none⟩) 1 1) 1 kk.cs) := own_still HXr.out (drew_bel wr)
            obtain ⟨bi, bhi, bhz0, bhz1, bhz2⟩ := byte_info
            obtain ⟨dg, rfl⟩ : ∃ dg, da = some ⟨dg, 0, none⟩ := by
              rcases own_nb HPd.out.g.row with ⟨_, e, _⟩ | ⟨g, e, _⟩
              · omega
              · exact ⟨g, e⟩
            obtain ⟨mb, mo, hma, -⟩ := (HCk.out.still HPd.out.b).d.at (i := c) (by rw [HCk.out.dl]; exact hc4)
            have HM12 : Hid (∀ X : World, X.ownsRow Vb.heap.size 31 13 (.slice (some ⟨xb, 0, none⟩) 1 1) 1 kk.cs → X.cell? ⟨xb, 12, none⟩ = some (.slice (some ⟨mb, mo, none⟩) kk.mn kk.mc)) := fun X hX => by
              have := (HXc.out X hX).2.2.1
              rwa [hma] at this
            have HSc : Hid (∀ X, Below Vb.heap.size Vb X → X.rangeAt mb (mo + c * 4) (dk.getD c dx0).cs ∧ (dk.getD c dx0).Rd X) := fun X hX => by
              have hC := HCk.out.still hX
              obtain ⟨b', o', e, h3⟩ := hC.d.at (i := c) (by rw [hC.dl]; exact hc4)
              rw [hma] at e
              simp only [Option.some.injEq, Addr.mk.injEq, and_true] at e
              obtain ⟨rfl, rfl⟩ := e
              exact ⟨h3, (hC.di c (by rw [hC.dl]; exact hc4)).rd⟩
            have hin := HCk.out.di c (by rw [HCk.out.dl]; exact hc4)
            have HFz : Hid ((dk.getD c dx0).ba = none → (dk.getD c dx0).bs.length = 0 ∧ (dk.getD c dx0).bc = 0) := hin.z
            have hfn20 := hin.n
            have hmn20 := HCk.out.dn
            have HFr : Hid (i64B (dk.getD c dx0).s.1 ∧ i64B (dk.getD c dx0).s.2) := hin.rd.r
            have HFi : Hid (∀ ad, (dk.getD c dx0).ba = some ad → ∀ j u, (byts (dk.getD c dx0).bs)[j]? = some u → wr.drew.cell? (ad.add j) = some u) := rdB_news (HSc.out _ HPd.out.b).2.b
            have HOB : Hid (wr.drew.ownsRow Vb.heap.size 5 1 (.slice (mt.getD c dx0).ba (mt.getD c dx0).bs.length (mt.getD c dx0).bc) (mt.getD c dx0).bs.length (byts (mt.getD c dx0).bs)) := HPd.out.g.f.o c hc3
            have HOw : Hid ((mt.getD c dx0).v = .slice (mt.getD c dx0).ba (mt.getD c dx0).bs.length (mt.getD c dx0).bc) := rfl
            have HRow : Hid (wr.drew.ownsRow Vb.heap.size 37 4 (.slice (some ⟨dg, 0, none⟩) dn dc) dn (msC mt)) := HPd.out.g.row
            have hml : mt.length = dn := HPd.out.g.len
            have HQ3 : Hid (wr.drew.cell? ⟨dg, c * 4 + 3, none⟩ = some (.slice (mt.getD c dx0).ba (mt.getD c dx0).bs.length (mt.getD c dx0).bc)) := by
              obtain ⟨b', o', e, h3⟩ := HPd.out.g.rd.at (i := c) (by omega)
              simp only [Option.some.injEq, Addr.mk.injEq, and_true] at e
              obtain ⟨rfl, rfl⟩ := e
              have := h3 3 _ rfl
              rwa [Nat.zero_add] at this
            have HF3 : Hid (wr.drew.cell? ⟨mb, mo + c * 4 + 3, none⟩ = some (.slice (dk.getD c dx0).ba (dk.getD c dx0).bs.length (dk.getD c dx0).bc)) := (HSc.out _ HPd.out.b).1 3 _ rfl
            have HQd : Hid (wr.drew.cell? ⟨xb, 12, none⟩ = some (.slice (some ⟨mb, mo, none⟩) kk.mn kk.mc)) := HM12.out _ HXd.out
            have HGd : Hid (dg < wr.drew.heap.size) := by
              obtain ⟨C, h1, _⟩ := own_heap HRow.out
              exact (Array.getElem?_eq_some_iff.1 h1).1
            have HXb : Hid (((mt.getD c dx0).ba = none ∧ (mt.getD c dx0).bs.length = 0 ∧ (mt.getD c dx0).bc = 0) ∨ ∃ g, (mt.getD c dx0).ba = some ⟨g, 0, none⟩ ∧ (mt.getD c dx0).bs.length ≤ (mt.getD c dx0).bc ∧ (mt.getD c dx0).bc ≤ 9223372036854775807) := own_nb HOB.out
            have HBz : Hid (Vb.heap.size ≤ wr.drew.heap.size) := HPd.out.hB
            have HVb : Hid (Below Vb.heap.size Vb wr.drew) := HPd.out.b
            have HNx : Hid (∀ (w1 w2 : World) a1 c1, w1.ownsRow Vb.heap.size 5 1 (.slice a1 (dk.getD c dx0).bs.length c1) (dk.getD c dx0).bs.length (byts (dk.getD c dx0).bs) → Kept wr.drew w1 (fun j => (Value.slice (mt.getD c dx0).ba (mt.getD c dx0).bs.length (mt.getD c dx0).bc).ownBlock = some j) → ((Value.slice a1 (dk.getD c dx0).bs.length c1).ownBlock = (Value.slice (mt.getD c dx0).ba (mt.getD c dx0).bs.length (mt.getD c dx0).bc).ownBlock ∨ (Value.slice a1 (dk.getD c dx0).bs.length c1).ownBlock = some wr.drew.heap.size) → Kept w1 w2 (fun j => j = dg) → w2.ownsRow Vb.heap.size 37 4 (.slice (some ⟨dg, 0, none⟩) dn dc) dn (msC (mt.set c ⟨(dk.getD c dx0).s, (dk.getD c dx0).st, a1, c1, (dk.getD c dx0).bs⟩)) → (∃ mu, PlS Vb Vb.heap.size n ga ca go co dn (.slice (some ⟨dg, 0, none⟩) dn dc) w2 L3 mu (.slice a3 kk.wn c3)) ∧ w2.ownsRow Vb.heap.size 31 13 (.slice (some ⟨xb, 0, none⟩) 1 1) 1 kk.cs) := fun w1 w2 a1 c1 h1 h2 h3 h4 h5 => by
              obtain ⟨hM, hK⟩ := HPd.out.g.next (x := dk.getD c dx0) HBz.out hc3 ⟨HFr.out, hfn20⟩ h1 h2 h3 h4 h5
              exact ⟨⟨_, HPd.out.msg hM hK⟩, hK.k _ _ _ _ _ _ (by decide) (by decide) HXd.out⟩
            clear hin HOw HPd HPc HXr HFr hma
            generalize mt.getD c dx0 = x at *
            generalize dk.getD c dx0 = f at *
            generalize hfn : f.bs.length = fn at *
            have Hfn : Hid (f.bs.length = fn) := hfn
            clear hfn
            generalize hxn : x.bs.length = xn at *
            generalize hxa : x.ba = xa at *
            generalize hxc : x.bc = xc at *
            clear hxn hxa hxc
            have HOz : Hid (wr.drew.ownsRow Vb.heap.size 5 1 (.slice xa 0 xc) 0 []) := own_zero HOB.out
            go_wp2_with (fail)
            refine wp_region_held_drew (S := (fun w' => w'.cell? ⟨dg, c * 4 + 3, none⟩ = some (.slice xa xn xc) ∧ w'.cell? ⟨mb, mo + c * 4 + 3, none⟩ = some (.slice f.ba fn f.bc) ∧ w'.cell? ⟨xb, 12, none⟩ = some (.slice (some ⟨mb, mo, none⟩) kk.mn kk.mc))) (by kernel_rfl) (⟨HQ3.out, HF3.out, HQd.out⟩) (fun hHeld => ?_)
            simp only [Act.put, List.size_toArray, List.length_cons, List.length_nil, Nat.zero_add]
            refine wpAnyH_take (i := 0) (v := .slice (some ⟨dg, 0, none⟩) dn dc) rfl (by kernel_rfl) (by kernel_rfl) (by kernel_rfl) (fun _ _ _ h => h) (Or.inl ⟨by rfl, fun w' hS => by go_simp⟩) hHeld ?_
            simp only [Act.put, gA9, gZ9, gC9, sA9, sZ9, sC9]
            refine wpAnyH_take (i := 1) (v := .int .i64 (c : Int)) rfl (by kernel_rfl) (by kernel_rfl) (by kernel_rfl) (fun _ _ _ h => h) (Or.inl ⟨by rfl, fun w' hS => by go_simp⟩) hHeld ?_
            simp only [Act.put, gA9, gZ9, gC9, sA9, sZ9, sC9]
            refine wpAnyH_take (i := 2) (v := .pointer (some ⟨dg, c * 4, none⟩)) rfl (by kernel_rfl) (by kernel_rfl) (by kernel_rfl) (fun _ _ _ h => h) (Or.inl ⟨by rfl, fun w' hS => by go_simp⟩) hHeld ?_
            simp only [Act.put, gA9, gZ9, gC9, sA9, sZ9, sC9]
            refine wpAnyH_take (i := 3) (v := .pointer (some ⟨dg, c * 4 + 3, none⟩)) rfl (by kernel_rfl) (by kernel_rfl) (by kernel_rfl) (fun _ _ _ h => h) (Or.inl ⟨by rfl, fun w' hS => by go_simp⟩) hHeld ?_
            simp only [Act.put, gA9, gZ9, gC9, sA9, sZ9, sC9]
            refine wpAnyH_take (i := 4) (v := .slice xa xn xc) rfl (by kernel_rfl) (by kernel_rfl) (by kernel_rfl) (fun _ _ _ h => h) (Or.inl ⟨by rfl, fun w' hS => by (obtain ⟨t5, td, te⟩ := hS; go_simp)⟩) hHeld ?_
            simp only [Act.put, gA9, gZ9, gC9, sA9, sZ9, sC9]
            refine wpAnyH_take (i := 5) (v := .slice xa 0 xc) rfl (by kernel_rfl) (by kernel_rfl) (by kernel_rfl) (fun _ _ _ h => h) (Or.inl ⟨by rfl, fun w' hS => by (rcases HXb.out with ⟨rfl, rfl, rfl⟩ | ⟨g, rfl, hh1, hh2⟩ <;> go_simp <;> first | done | (split <;> first | rfl | (simp_all; done) | omega))⟩) hHeld ?_
            simp only [Act.put, gA9, gZ9, gC9, sA9, sZ9, sC9]
            refine wpAnyH_take (i := 6) (v := .pointer (some ⟨xb, 12, none⟩)) rfl (by kernel_rfl) (by kernel_rfl) (by kernel_rfl) (fun _ _ _ h => h) (Or.inl ⟨by rfl, fun w' hS => by go_simp⟩) hHeld ?_
            simp only [Act.put, gA9, gZ9, gC9, sA9, sZ9, sC9]
            refine wpAnyH_take (i := 7) (v := .slice (some ⟨mb, mo, none⟩) kk.mn kk.mc) rfl (by kernel_rfl) (by kernel_rfl) (by kernel_rfl) (fun _ _ _ h => h) (Or.inl ⟨by rfl, fun w' hS => by (obtain ⟨t5, td, te⟩ := hS; go_simp)⟩) hHeld ?_
            simp only [Act.put, gA9, gZ9, gC9, sA9, sZ9, sC9]
            refine wpAnyH_take (i := 8) (v := .int .i64 (c : Int)) rfl (by kernel_rfl) (by kernel_rfl) (by kernel_rfl) (fun _ _ _ h => h) (Or.inl ⟨by rfl, fun w' hS => by go_simp⟩) hHeld ?_
            simp only [Act.put, gA9, gZ9, gC9, sA9, sZ9, sC9]
            refine wpAnyH_take (i := 9) (v := .pointer (some ⟨mb, mo + c * 4, none⟩)) rfl (by kernel_rfl) (by kernel_rfl) (by kernel_rfl) (fun _ _ _ h => h) (Or.inl ⟨by rfl, fun w' hS => by go_simp⟩) hHeld ?_
            simp only [Act.put, gA9, gZ9, gC9, sA9, sZ9, sC9]
            refine wpAnyH_take (i := 10) (v := .pointer (some ⟨mb, mo + c * 4 + 3, none⟩)) rfl (by kernel_rfl) (by kernel_rfl) (by kernel_rfl) (fun _ _ _ h => h) (Or.inl ⟨by rfl, fun w' hS => by go_simp⟩) hHeld ?_
            simp only [Act.put, gA9, gZ9, gC9, sA9, sZ9, sC9]
            refine wpAnyH_take (i := 11) (v := .slice f.ba fn f.bc) rfl (by kernel_rfl) (by kernel_rfl) (by kernel_rfl) (fun _ _ _ h => h) (Or.inl ⟨by rfl, fun w' hS => by (obtain ⟨t5, td, te⟩ := hS; go_simp)⟩) hHeld ?_
            simp only [Act.put, gA9, gZ9, gC9, sA9, sZ9, sC9]
            refine wpAnyH_ready (rs := [12]) (by kernel_rfl) (by simp) ?_
            refine AllReadyH.cons rfl (fun K hK => ?_) AllReadyH.nil
            refine step_appO rfl _ _ 35 rfl Vb.heap.size 5 bi (.int .u8 0) 1 1 Try.underlying35 bhi bhz0 bhz1 bhz2 rfl (by omega) (.slice xa 0 xc) rfl HOz.out f.ba fn f.bc (byts f.bs) rfl HFz.out (by rw [byts_len, Hfn.out, Nat.mul_one]) HFi.out (byts_one _) (by unfold maxLen; omega) (by omega) HBz.out ?_
            intro a4 c4 Z4 ho4 hk4 he4
            have HO4 : Hid (Z4.ownsRow Vb.heap.size 5 1 (.slice a4 fn c4) fn (byts f.bs)) := ho4
            have HK4 : Hid (Kept wr.drew Z4 (fun j => (Value.slice xa xn xc).ownBlock = some j)) := hk4.mono (fun q _ e => by rw [own_blk xa 0 xn xc xc] at e; exact e)
            have HE4 : Hid ((Value.slice a4 fn c4).ownBlock = (Value.slice xa xn xc).ownBlock ∨ (Value.slice a4 fn c4).ownBlock = some wr.drew.heap.size) := he4.imp (fun e => by rw [e]; exact own_blk xa 0 xn xc xc) id
            have HXz : Hid (Z4.ownsRow Vb.heap.size 31 13 (.slice (some ⟨xb, 0, none⟩) 1 1) 1 kk.cs) := own_keptT HXd.out HOB.out HK4.out (by decide)
            have HR4 : Hid (Z4.ownsRow Vb.heap.size 37 4 (.slice (some ⟨dg, 0, none⟩) dn dc) dn (msC mt)) := own_keptT HRow.out HOB.out HK4.out (by decide)
            have HV4 : Hid (Below Vb.heap.size Vb Z4) := HVb.out.trans (HK4.out.below HBz.out (fun q hq e => by have := (row_cells HOB.out e).1; omega))
            have HQ4 : Hid (Z4.cell? ⟨dg, c * 4 + 3, none⟩ = some (.slice xa xn xc)) := by
              have hb := HK4.out.block dg HGd.out (fun e => by
                obtain ⟨h1, cur, h2⟩ := row_cells HOB.out e
                obtain ⟨C, h3, _⟩ := own_heap HRow.out
                rw [h3] at h2
                simp at h2)
              have h2 := HQ3.out
              unfold World.cell? at *
              rw [hb]
              exact h2
            have HF4 : Hid (Z4.cell? ⟨mb, mo + c * 4 + 3, none⟩ = some (.slice f.ba fn f.bc)) := ((HSc.out Z4 HV4.out).1 3 _ (by show _ = some (Value.slice f.ba f.bs.length f.bc); rfl)).trans (by rw [Hfn.out])
            have HM4 : Hid (Z4.cell? ⟨xb, 12, none⟩ = some (.slice (some ⟨mb, mo, none⟩) kk.mn kk.mc)) := HM12.out Z4 HXz.out
            clear ho4 hk4 he4
            refine hK.out _ _ ⟨HQ4.out, HF4.out, HM4.out⟩ (fun hHeld => ?_)
            clear hK K
            simp only [Act.put, gA9, gZ9, gC9, sA9, sZ9, sC9]
            refine wpAnyH_take (i := 13) (v := .slice a4 fn c4) rfl (by kernel_rfl) (by kernel_rfl) (by kernel_rfl) (fun _ _ _ h => h) (Or.inl ⟨by rfl, fun w' hS => by go_simp⟩) hHeld ?_
            simp only [Act.put, gA9, gZ9, gC9, sA9, sZ9, sC9]
            refine wpAnyH_done (by kernel_rfl) ?_ _
            clear hHeld
            have q12z := HM4.out
            have HLf : Hid (Z4.rangeAt mb (mo + c * 4) f.cs) := (HSc.out Z4 HV4.out).1
            obtain ⟨p1, -, p3⟩ := own_putD HR4.out hml hc3 f
            have HP1 : Hid (Z4.there dg (c * 4) 4 ∧ (Z4.setCells dg (c * 4) f.cs).ownsRow Vb.heap.size 37 4 (.slice (some ⟨dg, 0, none⟩) dn dc) dn (msC (mt.set c f))) := ⟨p1, p3⟩
            clear p1 p3 HSc HQ3 HF3 HQd HQ4 HF4 HM4 HXb HFz HFi HOB HOz HRow HR4 HVb HV4 HGd HM12 HXd
            go_wp2_with (first
              | (refine load_mid 37 (.tmp 110) HLf.out _ Try.underlying37 rfl info_data rfl rfl rfl ?_)
              | (refine wl_storeM rfl 37 _ _ rfl (g := dg) (off := c * 4) (L := f.cs) rfl rfl HP1.out.1 info_data (dxcs_one f) ?_; have HP2 : Hid ((Z4.setCells dg (c * 4) f.cs).ownsRow Vb.heap.size 37 4 (.slice (some ⟨dg, 0, none⟩) dn dc) dn (msC (mt.set c f))) := HP1.out.2; have HK5 : Hid (Kept Z4 (Z4.setCells dg (c * 4) f.cs) (fun j => j = dg)) := ksets (P := fun j => j = dg) rfl _ _ _; generalize Z4.setCells dg (c * 4) f.cs = Z5 at *; obtain ⟨C5, hC5, hs5⟩ := own_heap HP2.out; have HC5 : Hid (Z5.heap[dg]? = some (.cells C5 37 (0, 0))) := hC5; have HS5 : Hid (c * 4 + 3 < C5.size) := (show c * 4 + 3 < C5.size from by omega); clear hC5 hs5)
              | (refine wl_store1 rfl 35 _ _ rfl (g := dg) (p := c * 4 + 3) rfl rfl HC5.out HS5.out oneBys rfl ?_; have HP3 : Hid ((Z5.setCell ⟨dg, c * 4 + 3, none⟩ (.slice a4 fn c4)).ownsRow Vb.heap.size 37 4 (.slice (some ⟨dg, 0, none⟩) dn dc) dn (msC (mt.set c ⟨f.s, f.st, a4, c4, f.bs⟩))) := (by have := own_setc (p := c * 4 + 3) HP2.out (.slice a4 fn c4); rwa [msC_setc (x1 := ⟨f.s, f.st, a4, c4, f.bs⟩) (by rw [List.length_set, hml]; exact hc3) (by omega) (by rw [getD_setD _ _ _ _ (by rw [hml]; exact hc3), if_pos rfl, ← Hfn.out]; rfl), List.set_set] at this); have HK6 : Hid (Kept Z4 (Z5.setCell ⟨dg, c * 4 + 3, none⟩ (.slice a4 fn c4)) (fun j => j = dg)) := HK5.out.trans (kept_one _ _ _ _); generalize Z5.setCell ⟨dg, c * 4 + 3, none⟩ (.slice a4 fn c4) = Z6 at *)
              | fail)
            obtain ⟨⟨mu, hmu⟩, hxu⟩ := HNx.out Z4 Z6 a4 c4 HO4.out HK4.out HE4.out HK6.out HP3.out
            exact ⟨⟨c + 1, mu, by omega, by omega, by go_num, hmu, hxu⟩, by simp [intOf]; omega⟩
          · by_cases hcn : c < dn
            · have j2 : (c : Int) < (dn : Int) := by omega
              have j3 : ¬ (c : Int) < (kk.mn : Int) := by omega
              go_wp2
              go_meet
              exact ⟨mt, HPc.out, HXr.out⟩
            · have j2 : ¬ (c : Int) < (dn : Int) := by omega
              go_wp2
              go_meet
              exact ⟨mt, HPc.out, HXr.out⟩
      case rest =>
      obtain ⟨mt, hpl, hxr⟩ := hcut
      generalize wc = Vz at *
      have HPl : Hid (PlS Vb Vb.heap.size n ga ca go co dn (.slice da dn dc) Vz L3 mt (.slice a3 kk.wn c3)) := hpl
      have HXr : Hid (Vz.ownsRow Vb.heap.size 31 13 (.slice (some ⟨xb, 0, none⟩) 1 1) 1 kk.cs) := hxr
      clear hpl hxr HP3 HXz
      have hfin := HPl.out.fin hn20 Hdn9.out kk.d kk.self kk.q
      obtain ⟨cs, oc, oco, wh, hfin⟩ := hfin
      have HFn : Hid (FinS Vz n ga ca go co dn da dc a3 kk.wn c3 kk.d kk.self kk.q mt cs oc oco wh) := hfin
      clear hfin
      have HXq : Hid (∀ X, Below Vz.heap.size Vz X → X.cell? ⟨xb, 8, none⟩ = some (.int .i64 kk.d) ∧ X.cell? ⟨xb, 10, none⟩ = some (.int .i64 kk.self) ∧ X.cell? ⟨xb, 11, none⟩ = some (.int .i64 kk.q) ∧ X.rangeAt go 0 oc ∧ RdI X a3 wh) := fun X hX => by
        have h := HXc.out X (own_still HXr.out hX)
        exact ⟨h.2.2.2.1, h.2.2.2.2.1, h.2.2.2.2.2.1, (HFn.out.at_ X hX).1, (HFn.out.at_ X hX).2⟩
      have HwL : Hid (wh.length = kk.wn) := HFn.out.wl
      have HwZ : Hid (a3 = none → kk.wn = 0 ∧ c3 = 0) := HFn.out.hwz
      have hkw : kk.wn ≤ 1048576 := HFn.out.wn20
      have Ho7 : Hid (oc.length = 7) := HFn.out.ocl
      have BZ0 : Hid (Below Vz.heap.size Vz Vz) := Below.refl _ _
      as_aux_lemma =>
      go_upto_region 24 with (first
        | (go_at_call 7; refine (HFn.out.cut Vz BZ0.out).mono ?_; rintro e Y1 ⟨cv1, ce1, rfl, hs, hb⟩; have HS1 : Hid (CutS cs cv1 ce1) := hs; have BY1 : Hid (Below Vz.heap.size Vz Y1) := hb; clear hs hb)
        | fail)
      go_cut [16, 17] from 57 to 236 (fun q er wx => ∃ la lc l E, q = .slice la (l : List (Int × Int)).length lc ∧ er = .int .i64 E ∧ LkS cs oco kk.d E l ∧ wx.ownsRow 0 70 2 (.slice la l.length lc) l.length (slCells l) ∧ Below Vz.heap.size Vz wx)
      case first =>
        refine wp_region_held_drew (S := (fun w' => Below Vz.heap.size Vz w')) (by kernel_rfl) (bstep BY1.out (drew_bel _)) (fun hHeld => ?_)
        simp only [Act.put, List.size_toArray, List.length_cons, List.length_nil, Nat.zero_add]
        have BY1d : Hid (Below Vz.heap.size Vz Y1.drew) := bstep BY1.out (drew_bel _)
        generalize Y1.drew = Y1d at *
        refine wpAnyH_take (i := 0) (v := .pointer (some ⟨xb, 8, none⟩)) rfl (by kernel_rfl) (by kernel_rfl) (by kernel_rfl) (fun _ _ _ h => h) (Or.inl ⟨by rfl, fun w' hS => by go_simp⟩) hHeld ?_
        simp only [Act.put, gA9, gZ9, gC9, sA9, sZ9, sC9]
        refine wpAnyH_take (i := 1) (v := .int .i64 kk.d) rfl (by kernel_rfl) (by kernel_rfl) (by kernel_rfl) (fun _ _ _ h => h) (Or.inl ⟨by rfl, fun w' hS => by (obtain ⟨q8, q10, q11, -, -⟩ := HXq.out w' hS; go_simp)⟩) hHeld ?_
        simp only [Act.put, gA9, gZ9, gC9, sA9, sZ9, sC9]
        refine wpAnyH_take (i := 2) (v := .slice (some ⟨go, 0, none⟩) 1 co) rfl (by kernel_rfl) (by kernel_rfl) (by kernel_rfl) (fun _ _ _ h => h) (Or.inl ⟨by rfl, fun w' hS => by go_simp⟩) hHeld ?_
        simp only [Act.put, gA9, gZ9, gC9, sA9, sZ9, sC9]
        refine wpAnyH_take (i := 3) (v := .pointer (some ⟨go, 0, none⟩)) rfl (by kernel_rfl) (by kernel_rfl) (by kernel_rfl) (fun _ _ _ h => h) (Or.inl ⟨by rfl, fun w' hS => by go_simp⟩) hHeld ?_
        simp only [Act.put, gA9, gZ9, gC9, sA9, sZ9, sC9]
        refine wpAnyH_take (i := 4) (v := .agg (oc).toArray) rfl (by kernel_rfl) (by kernel_rfl) (by kernel_rfl) (fun _ _ _ h => h) (yieldsIf_load_mid (by rfl) 28 (.tmp 127) rfl go (0) (by rfl) (oc) _ (fun w' hS => (HXq.out w' hS).2.2.2.1) Try.underlying28 rfl (by rw [Ho7.out]; exact info_flush)) hHeld ?_
        simp only [Act.put, gA9, gZ9, gC9, sA9, sZ9, sC9]
        refine wpAnyH_take (i := 5) (v := .slice (some ⟨ga, 0, none⟩) n ca) rfl (by kernel_rfl) (by kernel_rfl) (by kernel_rfl) (fun _ _ _ h => h) (Or.inl ⟨by rfl, fun w' hS => by go_simp⟩) hHeld ?_
        simp only [Act.put, gA9, gZ9, gC9, sA9, sZ9, sC9]
        refine wpAnyH_ready (rs := [6]) (by kernel_rfl) (by simp) ?_
        refine AllReadyH.cons rfl (fun K hK => ?_) AllReadyH.nil
        go_simp
        refine (HFn.out.lk Y1d BY1d.out).mono ?_
        rintro e Y2 ⟨la, lc, l, E, rfl, hs, ho, hb⟩
        refine hK.out _ _ (bstep BY1d.out hb) (fun hHeld => ?_)
        clear hK K
        try (simp only [Act.put, gA9, gZ9, gC9, sA9, sZ9, sC9])
        refine wpAnyH_take (i := 7) (v := .tuple #[.slice la l.length lc, .int .i64 E]) rfl (by kernel_rfl) (by kernel_rfl) (by kernel_rfl) (fun _ _ _ h => h) (Or.inl ⟨by rfl, fun w' hS => by go_simp⟩) hHeld ?_
        simp only [Act.put, gA9, gZ9, gC9, sA9, sZ9, sC9]
        refine wpAnyH_take (i := 8) (v := .slice la l.length lc) rfl (by kernel_rfl) (by kernel_rfl) (by kernel_rfl) (fun _ _ _ h => h) (Or.inl ⟨by rfl, fun w' hS => by go_simp⟩) hHeld ?_
        simp only [Act.put, gA9, gZ9, gC9, sA9, sZ9, sC9]
        refine wpAnyH_take (i := 9) (v := .int .i64 E) rfl (by kernel_rfl) (by kernel_rfl) (by kernel_rfl) (fun _ _ _ h => h) (Or.inl ⟨by rfl, fun w' hS => by go_simp⟩) hHeld ?_
        simp only [Act.put, gA9, gZ9, gC9, sA9, sZ9, sC9]
        refine wpAnyH_take (i := 10) (v := .slice la l.length lc) rfl (by kernel_rfl) (by kernel_rfl) (by kernel_rfl) (fun _ _ _ h => h) (Or.inl ⟨by rfl, fun w' hS => by go_simp⟩) hHeld ?_
        simp only [Act.put, gA9, gZ9, gC9, sA9, sZ9, sC9]
        refine wpAnyH_take (i := 11) (v := .int .i64 E) rfl (by kernel_rfl) (by kernel_rfl) (by kernel_rfl) (fun _ _ _ h => h) (Or.inl ⟨by rfl, fun w' hS => by go_simp⟩) hHeld ?_
        simp only [Act.put, gA9, gZ9, gC9, sA9, sZ9, sC9]
        refine wpAnyH_done (by kernel_rfl) ?_ _
        clear hHeld
        go_wp2
        go_meet
        exact ⟨la, lc, l, E, rfl, rfl, hs, own_lower ho (Nat.zero_le _), bstep BY1d.out hb⟩
      case rest =>
      obtain ⟨la2, lc2, l2, E2, rfl, rfl, hs, ho, hb⟩ := hcut
      generalize wc = Y2 at *
      have HS2 : Hid (LkS cs oco kk.d E2 l2) := hs
      have HO2 : Hid (Y2.ownsRow 0 70 2 (.slice la2 l2.length lc2) l2.length (slCells l2)) := ho
      have BY2 : Hid (Below Vz.heap.size Vz Y2) := hb
      clear hs ho hb
      obtain ⟨-, q10, q11, -, -⟩ := HXq.out Y2 BY2.out
      go_upto_region 26 with (first
        | (go_at_call 9; refine (HFn.out.du Y2 BY2.out).mono ?_; rintro e Y3 ⟨la3, lc3, l3, E3, rfl, hs, ho, hb⟩; have HS3 : Hid (DuS cs wh kk.self kk.q E3 l3) := hs; have HO3 : Hid (Y3.ownsRow 0 70 2 (.slice la3 l3.length lc3) l3.length (slCells l3)) := own_lower ho (Nat.zero_le _); have BY23 : Hid (Below Y2.heap.size Y2 Y3) := hb; have BY3 : Hid (Below Vz.heap.size Vz Y3) := bstep BY2.out hb; clear hs ho hb)
        | fail)
      have HO23 : Hid (Y3.ownsRow 0 70 2 (.slice la2 l2.length lc2) l2.length (slCells l2)) := own_still HO2.out BY23.out
      obtain ⟨q8, -, -, -, -⟩ := HXq.out Y3 BY3.out
      clear q10 q11
      go_upto_region 27 with (first
        | (go_at_call 10; refine (HFn.out.rs Y3 BY3.out).mono ?_; rintro e Y4 ⟨la4, lc4, l4, E4, rfl, hs, ho, hb⟩; have HS4 : Hid (RsS cs mt kk.d E4 l4) := hs; have HM4 : Hid (MoT 78 Y3.heap.size Y4 (.slice la4 l4.length lc4) l4) := ho; have BY34 : Hid (Below Y3.heap.size Y3 Y4) := hb; have BY4 : Hid (Below Vz.heap.size Vz Y4) := bstep BY3.out hb; clear hs ho hb)
        | fail)
      clear q8
      go_upto_region 28 with (first
        | (go_at_call 4; refine (HFn.out.my Y4 BY4.out).mono ?_; rintro e Y5 ⟨ma5, mc5, xs5, rfl, hc, hr, hb⟩; have HC5 : Hid _ := hc; have HR5 : Hid (RdFs Y5 ma5 xs5) := hr; have BY45 : Hid (Below Y4.heap.size Y4 Y5) := hb; clear hc hr hb)
        | (go_at_call 11; refine (HFn.out.qc Y5 ma5 mc5 xs5 HC5.out HR5.out).mono ?_; rintro e Y6 ⟨cv6, ce6, rfl, hs, hb⟩; have HS6 : Hid (CutS cs cv6 ce6) := hs; have BY46 : Hid (Below Y4.heap.size Y4 Y6) := bstep BY45.out hb; clear hs hb)
        | fail)
      obtain ⟨rfl, rfl⟩ := HS1.out.eq HS6.out
      have BY6 : Hid (Below Vz.heap.size Vz Y6) := bstep BY4.out BY46.out
      have BY26 : Hid (Below Y2.heap.size Y2 Y6) := bstep (bstep BY23.out BY34.out) BY46.out
      have BY36 : Hid (Below Y3.heap.size Y3 Y6) := bstep BY34.out BY46.out
      clear HS1 HS6 HC5 HR5 BY45
      go_cut [24, 25] from 57 to 236 (fun q er wx => ∃ la lc l E, q = .slice la (l : List (Int × Int)).length lc ∧ er = .int .i64 E ∧ LkS cs oco kk.d E l ∧ wx.ownsRow 0 70 2 (.slice la l.length lc) l.length (slCells l) ∧ Below Vz.heap.size Vz wx ∧ Below Y6.heap.size Y6 wx)
      case first =>
        refine wp_region_held_drew (S := (fun w' => Below Vz.heap.size Vz w' ∧ Below Y6.heap.size Y6 w')) (by kernel_rfl) ⟨bstep BY6.out (drew_bel _), drew_bel _⟩ (fun hHeld => ?_)
        simp only [Act.put, List.size_toArray, List.length_cons, List.length_nil, Nat.zero_add]
        have BY6d : Hid (Below Vz.heap.size Vz Y6.drew ∧ Below Y6.heap.size Y6 Y6.drew) := ⟨bstep BY6.out (drew_bel _), drew_bel _⟩
        generalize Y6.drew = Y6d at *
        refine wpAnyH_take (i := 0) (v := .pointer (some ⟨xb, 8, none⟩)) rfl (by kernel_rfl) (by kernel_rfl) (by kernel_rfl) (fun _ _ _ h => h) (Or.inl ⟨by rfl, fun w' hS => by go_simp⟩) hHeld ?_
        simp only [Act.put, gA9, gZ9, gC9, sA9, sZ9, sC9]
        refine wpAnyH_take (i := 1) (v := .int .i64 kk.d) rfl (by kernel_rfl) (by kernel_rfl) (by kernel_rfl) (fun _ _ _ h => h) (Or.inl ⟨by rfl, fun w' hS => by (obtain ⟨q8, q10, q11, -, -⟩ := HXq.out w' hS.1; go_simp)⟩) hHeld ?_
        simp only [Act.put, gA9, gZ9, gC9, sA9, sZ9, sC9]
        refine wpAnyH_take (i := 2) (v := .slice (some ⟨go, 0, none⟩) 1 co) rfl (by kernel_rfl) (by kernel_rfl) (by kernel_rfl) (fun _ _ _ h => h) (Or.inl ⟨by rfl, fun w' hS => by go_simp⟩) hHeld ?_
        simp only [Act.put, gA9, gZ9, gC9, sA9, sZ9, sC9]
        refine wpAnyH_take (i := 3) (v := .pointer (some ⟨go, 0, none⟩)) rfl (by kernel_rfl) (by kernel_rfl) (by kernel_rfl) (fun _ _ _ h => h) (Or.inl ⟨by rfl, fun w' hS => by go_simp⟩) hHeld ?_
        simp only [Act.put, gA9, gZ9, gC9, sA9, sZ9, sC9]
        refine wpAnyH_take (i := 4) (v := .agg (oc).toArray) rfl (by kernel_rfl) (by kernel_rfl) (by kernel_rfl) (fun _ _ _ h => h) (yieldsIf_load_mid (by rfl) 28 (.tmp 161) rfl go (0) (by rfl) (oc) _ (fun w' hS => (HXq.out w' hS.1).2.2.2.1) Try.underlying28 rfl (by rw [Ho7.out]; exact info_flush)) hHeld ?_
        simp only [Act.put, gA9, gZ9, gC9, sA9, sZ9, sC9]
        refine wpAnyH_take (i := 6) (v := .slice (some ⟨ga, 0, none⟩) n ca) rfl (by kernel_rfl) (by kernel_rfl) (by kernel_rfl) (fun _ _ _ h => h) (Or.inl ⟨by rfl, fun w' hS => by go_simp⟩) hHeld ?_
        simp only [Act.put, gA9, gZ9, gC9, sA9, sZ9, sC9]
        refine wpAnyH_ready (rs := [5]) (by kernel_rfl) (by simp) ?_
        refine AllReadyH.cons rfl (fun K hK => ?_) AllReadyH.nil
        go_simp
        refine (HFn.out.on Y6d BY6d.out.1).mono ?_
        rintro e Z1 ⟨x1, rfl, hx1, hx2, hb⟩
        have HX1 : Hid (x1.c = oco) := hx1
        have HX2 : Hid (x1.Rd Z1) := hx2
        have BY6dZ1 : Hid (Below Y6d.heap.size Y6d Z1) := hb
        have BZ1 : Hid (Below Vz.heap.size Vz Z1 ∧ Below Y6.heap.size Y6 Z1) := ⟨bstep BY6d.out.1 hb, bstep BY6d.out.2 hb⟩
        clear hx1 hx2 hb
        refine hK.out _ _ BZ1.out (fun hHeld => ?_)
        clear hK K
        try (simp only [Act.put, gA9, gZ9, gC9, sA9, sZ9, sC9])
        refine wpAnyH_ready (rs := [7]) (by kernel_rfl) (by simp) ?_
        refine AllReadyH.cons rfl (fun K hK => ?_) AllReadyH.nil
        go_simp
        refine (HFn.out.my Z1 BZ1.out.1).mono ?_
        rintro e Z2 ⟨ma, mc, xs, rfl, hc, hr, hb⟩
        have HC1 : Hid (cos xs = cs) := hc
        have HR1 : Hid (RdFs Z2 ma xs) := hr
        have BZ1Z2 : Hid (Below Z1.heap.size Z1 Z2) := hb
        have BZ2 : Hid (Below Vz.heap.size Vz Z2 ∧ Below Y6.heap.size Y6 Z2) := ⟨bstep BZ1.out.1 hb, bstep BZ1.out.2 hb⟩
        clear hc hr hb
        refine hK.out _ _ BZ2.out (fun hHeld => ?_)
        clear hK K
        try (simp only [Act.put, gA9, gZ9, gC9, sA9, sZ9, sC9])
        refine wpAnyH_ready (rs := [8]) (by kernel_rfl) (by simp) ?_
        refine AllReadyH.cons rfl (fun K hK => ?_) AllReadyH.nil
        go_simp
        refine (HFn.out.ql Z2 ma mc xs x1 HC1.out HR1.out (HX2.out.still BZ1Z2.out) HX1.out).mono ?_
        rintro e Z3 ⟨la, lc, l, E, rfl, hs, ho, hb⟩
        refine hK.out _ _ ⟨bstep BZ2.out.1 hb, bstep BZ2.out.2 hb⟩ (fun hHeld => ?_)
        clear hK K
        try (simp only [Act.put, gA9, gZ9, gC9, sA9, sZ9, sC9])
        refine wpAnyH_take (i := 9) (v := .tuple #[.slice la l.length lc, .int .i64 E]) rfl (by kernel_rfl) (by kernel_rfl) (by kernel_rfl) (fun _ _ _ h => h) (Or.inl ⟨by rfl, fun w' hS => by go_simp⟩) hHeld ?_
        simp only [Act.put, gA9, gZ9, gC9, sA9, sZ9, sC9]
        refine wpAnyH_take (i := 10) (v := .slice la l.length lc) rfl (by kernel_rfl) (by kernel_rfl) (by kernel_rfl) (fun _ _ _ h => h) (Or.inl ⟨by rfl, fun w' hS => by go_simp⟩) hHeld ?_
        simp only [Act.put, gA9, gZ9, gC9, sA9, sZ9, sC9]
        refine wpAnyH_take (i := 11) (v := .int .i64 E) rfl (by kernel_rfl) (by kernel_rfl) (by kernel_rfl) (fun _ _ _ h => h) (Or.inl ⟨by rfl, fun w' hS => by go_simp⟩) hHeld ?_
        simp only [Act.put, gA9, gZ9, gC9, sA9, sZ9, sC9]
        refine wpAnyH_take (i := 12) (v := .slice la l.length lc) rfl (by kernel_rfl) (by kernel_rfl) (by kernel_rfl) (fun _ _ _ h => h) (Or.inl ⟨by rfl, fun w' hS => by go_simp⟩) hHeld ?_
        simp only [Act.put, gA9, gZ9, gC9, sA9, sZ9, sC9]
        refine wpAnyH_take (i := 13) (v := .int .i64 E) rfl (by kernel_rfl) (by kernel_rfl) (by kernel_rfl) (fun _ _ _ h => h) (Or.inl ⟨by rfl, fun w' hS => by go_simp⟩) hHeld ?_
        simp only [Act.put, gA9, gZ9, gC9, sA9, sZ9, sC9]
        refine wpAnyH_done (by kernel_rfl) ?_ _
        clear hHeld
        go_wp2
        go_meet
        exact ⟨la, lc, l, E, rfl, rfl, hs, own_lower ho (Nat.zero_le _), bstep BZ2.out.1 hb, bstep BZ2.out.2 hb⟩
      case rest =>
      obtain ⟨la7, lc7, l7, E7, rfl, rfl, hs, ho, hb, hb2⟩ := hcut
      generalize wc = Y7 at *
      obtain ⟨rfl, rfl⟩ := HS2.out.eq hs
      have HO7 : Hid (Y7.ownsRow 0 70 2 (.slice la7 l2.length lc7) l2.length (slCells l2)) := ho
      have BY7 : Hid (Below Vz.heap.size Vz Y7) := hb
      have BY67 : Hid (Below Y6.heap.size Y6 Y7) := hb2
      have HL2 : Hid (l2.length ≤ 1000000000000000000) := LkS.len HS2.out
      clear hs ho hb hb2 HS2
      go_upto_region 29 with fail
      go_cut [26, 27] from 57 to 236 (fun q er wx => ∃ la lc l E, q = .slice la (l : List (Int × Int)).length lc ∧ er = .int .i64 E ∧ DuS cs wh kk.self kk.q E l ∧ wx.ownsRow 0 70 2 (.slice la l.length lc) l.length (slCells l) ∧ Below Vz.heap.size Vz wx ∧ Below Y7.heap.size Y7 wx)
      case first =>
        refine wp_region_held_drew (S := (fun w' => Below Vz.heap.size Vz w' ∧ Below Y7.heap.size Y7 w')) (by kernel_rfl) ⟨bstep BY7.out (drew_bel _), drew_bel _⟩ (fun hHeld => ?_)
        simp only [Act.put, List.size_toArray, List.length_cons, List.length_nil, Nat.zero_add]
        have BY7d : Hid (Below Vz.heap.size Vz Y7.drew ∧ Below Y7.heap.size Y7 Y7.drew) := ⟨bstep BY7.out (drew_bel _), drew_bel _⟩
        generalize Y7.drew = Y7d at *
        refine wpAnyH_take (i := 0) (v := .pointer (some ⟨xb, 10, none⟩)) rfl (by kernel_rfl) (by kernel_rfl) (by kernel_rfl) (fun _ _ _ h => h) (Or.inl ⟨by rfl, fun w' hS => by go_simp⟩) hHeld ?_
        simp only [Act.put, gA9, gZ9, gC9, sA9, sZ9, sC9]
        refine wpAnyH_take (i := 1) (v := .int .i64 kk.self) rfl (by kernel_rfl) (by kernel_rfl) (by kernel_rfl) (fun _ _ _ h => h) (Or.inl ⟨by rfl, fun w' hS => by (obtain ⟨q8, q10, q11, -, -⟩ := HXq.out w' hS.1; go_simp)⟩) hHeld ?_
        simp only [Act.put, gA9, gZ9, gC9, sA9, sZ9, sC9]
        refine wpAnyH_take (i := 2) (v := .pointer (some ⟨xb, 11, none⟩)) rfl (by kernel_rfl) (by kernel_rfl) (by kernel_rfl) (fun _ _ _ h => h) (Or.inl ⟨by rfl, fun w' hS => by go_simp⟩) hHeld ?_
        simp only [Act.put, gA9, gZ9, gC9, sA9, sZ9, sC9]
        refine wpAnyH_take (i := 3) (v := .int .i64 kk.q) rfl (by kernel_rfl) (by kernel_rfl) (by kernel_rfl) (fun _ _ _ h => h) (Or.inl ⟨by rfl, fun w' hS => by (obtain ⟨q8, q10, q11, -, -⟩ := HXq.out w' hS.1; go_simp)⟩) hHeld ?_
        simp only [Act.put, gA9, gZ9, gC9, sA9, sZ9, sC9]
        refine wpAnyH_take (i := 5) (v := .slice a3 kk.wn c3) rfl (by kernel_rfl) (by kernel_rfl) (by kernel_rfl) (fun _ _ _ h => h) (Or.inl ⟨by rfl, fun w' hS => by go_simp⟩) hHeld ?_
        simp only [Act.put, gA9, gZ9, gC9, sA9, sZ9, sC9]
        refine wpAnyH_take (i := 7) (v := .slice (some ⟨ga, 0, none⟩) n ca) rfl (by kernel_rfl) (by kernel_rfl) (by kernel_rfl) (fun _ _ _ h => h) (Or.inl ⟨by rfl, fun w' hS => by go_simp⟩) hHeld ?_
        simp only [Act.put, gA9, gZ9, gC9, sA9, sZ9, sC9]
        refine wpAnyH_ready (rs := [4]) (by kernel_rfl) (by simp) ?_
        refine AllReadyH.cons rfl (fun K hK => ?_) AllReadyH.nil
        go_simp
        obtain ⟨b1, k1⟩ := bel_new (Z := #[]) (T := 3) Y7d
        generalize Y7d.alloc (.cells #[] 3) = Z1 at b1 k1 ⊢
        have KB : Hid (Z1.heap[Y7d.heap.size]? = some (.cells #[] 3 (0, 0))) := k1
        have BY7dZ1 : Hid (Below Y7d.heap.size Y7d Z1) := b1
        have BZ1 : Hid (Below Vz.heap.size Vz Z1 ∧ Below Y7.heap.size Y7 Z1) := ⟨bstep BY7d.out.1 b1, bstep BY7d.out.2 b1⟩
        clear k1 b1
        refine hK.out _ _ BZ1.out (fun hHeld => ?_)
        clear hK K
        try (simp only [Act.put, gA9, gZ9, gC9, sA9, sZ9, sC9])
        have BCZ1 : Hid (Below Y7d.heap.size Y7d Z1) := BY7dZ1.out
        refine wpAnyH_ready (rs := [6]) (by kernel_rfl) (by simp) ?_
        refine AllReadyH.cons rfl (fun K hK => ?_) AllReadyH.nil
        refine step_copyA rfl _ _ 26 3 rfl ii (.int .i64 0) 1 8 Try.underlying26 ihi ihz0 ihz1 ihz2 rfl (by omega) rfl KB.out a3 kk.wn c3 (ints wh) rfl HwZ.out (by rw [ints_len, HwL.out, Nat.mul_one]) (rdI_news (HXq.out Z1 BZ1.out.1).2.2.2.2) (ints_one _) (by unfold maxLen; omega) (by omega) ?_
        intro aa ac Z2 ho hk
        have HW : Hid (RdI Z2 aa wh) := own_rdI ho HwL.out
        have BCZ2 : Hid (Below Y7d.heap.size Y7d Z2) := BCZ1.out.trans (hk.below BCZ1.out.size (fun q hq e => by omega))
        have BZ2 : Hid (Below Vz.heap.size Vz Z2 ∧ Below Y7.heap.size Y7 Z2) := ⟨bstep BY7d.out.1 BCZ2.out, bstep BY7d.out.2 BCZ2.out⟩
        clear ho hk
        refine hK.out _ _ BZ2.out (fun hHeld => ?_)
        clear hK K
        try (simp only [Act.put, gA9, gZ9, gC9, sA9, sZ9, sC9])
        refine wpAnyH_ready (rs := [8]) (by kernel_rfl) (by simp) ?_
        refine AllReadyH.cons rfl (fun K hK => ?_) AllReadyH.nil
        go_simp
        refine (HFn.out.my Z2 BZ2.out.1).mono ?_
        rintro e Z3 ⟨ma, mc, xs, rfl, hc, hr, hb⟩
        have HC1 : Hid (cos xs = cs) := hc
        have HR1 : Hid (RdFs Z3 ma xs) := hr
        have BZ2Z3 : Hid (Below Z2.heap.size Z2 Z3) := hb
        have BZ3 : Hid (Below Vz.heap.size Vz Z3 ∧ Below Y7.heap.size Y7 Z3) := ⟨bstep BZ2.out.1 hb, bstep BZ2.out.2 hb⟩
        clear hc hr hb
        refine hK.out _ _ BZ3.out (fun hHeld => ?_)
        clear hK K
        try (simp only [Act.put, gA9, gZ9, gC9, sA9, sZ9, sC9])
        refine wpAnyH_ready (rs := [9]) (by kernel_rfl) (by simp) ?_
        refine AllReadyH.cons rfl (fun K hK => ?_) AllReadyH.nil
        go_simp
        refine (HFn.out.qd Z3 aa ac ma mc xs (HW.out.still BZ2Z3.out) HC1.out HR1.out).mono ?_
        rintro e Z4 ⟨la, lc, l, E, rfl, hs, ho, hb⟩
        refine hK.out _ _ ⟨bstep BZ3.out.1 hb, bstep BZ3.out.2 hb⟩ (fun hHeld => ?_)
        clear hK K
        try (simp only [Act.put, gA9, gZ9, gC9, sA9, sZ9, sC9])
        refine wpAnyH_take (i := 10) (v := .tuple #[.slice la l.length lc, .int .i64 E]) rfl (by kernel_rfl) (by kernel_rfl) (by kernel_rfl) (fun _ _ _ h => h) (Or.inl ⟨by rfl, fun w' hS => by go_simp⟩) hHeld ?_
        simp only [Act.put, gA9, gZ9, gC9, sA9, sZ9, sC9]
        refine wpAnyH_take (i := 11) (v := .slice la l.length lc) rfl (by kernel_rfl) (by kernel_rfl) (by kernel_rfl) (fun _ _ _ h => h) (Or.inl ⟨by rfl, fun w' hS => by go_simp⟩) hHeld ?_
        simp only [Act.put, gA9, gZ9, gC9, sA9, sZ9, sC9]
        refine wpAnyH_take (i := 12) (v := .int .i64 E) rfl (by kernel_rfl) (by kernel_rfl) (by kernel_rfl) (fun _ _ _ h => h) (Or.inl ⟨by rfl, fun w' hS => by go_simp⟩) hHeld ?_
        simp only [Act.put, gA9, gZ9, gC9, sA9, sZ9, sC9]
        refine wpAnyH_take (i := 13) (v := .slice la l.length lc) rfl (by kernel_rfl) (by kernel_rfl) (by kernel_rfl) (fun _ _ _ h => h) (Or.inl ⟨by rfl, fun w' hS => by go_simp⟩) hHeld ?_
        simp only [Act.put, gA9, gZ9, gC9, sA9, sZ9, sC9]
        refine wpAnyH_take (i := 14) (v := .int .i64 E) rfl (by kernel_rfl) (by kernel_rfl) (by kernel_rfl) (fun _ _ _ h => h) (Or.inl ⟨by rfl, fun w' hS => by go_simp⟩) hHeld ?_
        simp only [Act.put, gA9, gZ9, gC9, sA9, sZ9, sC9]
        refine wpAnyH_done (by kernel_rfl) ?_ _
        clear hHeld
        go_wp2
        go_meet
        exact ⟨la, lc, l, E, rfl, rfl, hs, own_lower ho (Nat.zero_le _), bstep BZ3.out.1 hb, bstep BZ3.out.2 hb⟩
      case rest =>
      obtain ⟨la8, lc8, l8, E8, rfl, rfl, hs, ho, hb, hb2⟩ := hcut
      generalize wc = Y8 at *
      obtain ⟨rfl, rfl⟩ := HS3.out.eq hs
      have HO8 : Hid (Y8.ownsRow 0 70 2 (.slice la8 l3.length lc8) l3.length (slCells l3)) := ho
      have BY8 : Hid (Below Vz.heap.size Vz Y8) := hb
      have BY78 : Hid (Below Y7.heap.size Y7 Y8) := hb2
      have HL3 : Hid (l3.length ≤ 1000000000000000000) := DuS.len HS3.out
      clear hs ho hb hb2 HS3
      go_upto_region 30 with fail
      go_cut [28, 29] from 57 to 236 (fun q er wx => ∃ la lc l E, q = .slice la (l : List Dx).length lc ∧ er = .int .i64 E ∧ RsS cs mt kk.d E l ∧ MoT 78 0 wx (.slice la l.length lc) l ∧ Below Vz.heap.size Vz wx ∧ Below Y8.heap.size Y8 wx)
      case first =>
        refine wp_region_held_drew (S := (fun w' => Below Vz.heap.size Vz w' ∧ Below Y8.heap.size Y8 w')) (by kernel_rfl) ⟨bstep BY8.out (drew_bel _), drew_bel _⟩ (fun hHeld => ?_)
        simp only [Act.put, List.size_toArray, List.length_cons, List.length_nil, Nat.zero_add]
        have BY8d : Hid (Below Vz.heap.size Vz Y8.drew ∧ Below Y8.heap.size Y8 Y8.drew) := ⟨bstep BY8.out (drew_bel _), drew_bel _⟩
        generalize Y8.drew = Y8d at *
        refine wpAnyH_take (i := 0) (v := .pointer (some ⟨xb, 8, none⟩)) rfl (by kernel_rfl) (by kernel_rfl) (by kernel_rfl) (fun _ _ _ h => h) (Or.inl ⟨by rfl, fun w' hS => by go_simp⟩) hHeld ?_
        simp only [Act.put, gA9, gZ9, gC9, sA9, sZ9, sC9]
        refine wpAnyH_take (i := 1) (v := .int .i64 kk.d) rfl (by kernel_rfl) (by kernel_rfl) (by kernel_rfl) (fun _ _ _ h => h) (Or.inl ⟨by rfl, fun w' hS => by (obtain ⟨q8, q10, q11, -, -⟩ := HXq.out w' hS.1; go_simp)⟩) hHeld ?_
        simp only [Act.put, gA9, gZ9, gC9, sA9, sZ9, sC9]
        refine wpAnyH_take (i := 2) (v := .slice (some ⟨ga, 0, none⟩) n ca) rfl (by kernel_rfl) (by kernel_rfl) (by kernel_rfl) (fun _ _ _ h => h) (Or.inl ⟨by rfl, fun w' hS => by go_simp⟩) hHeld ?_
        simp only [Act.put, gA9, gZ9, gC9, sA9, sZ9, sC9]
        refine wpAnyH_take (i := 4) (v := .slice da dn dc) rfl (by kernel_rfl) (by kernel_rfl) (by kernel_rfl) (fun _ _ _ h => h) (Or.inl ⟨by rfl, fun w' hS => by go_simp⟩) hHeld ?_
        simp only [Act.put, gA9, gZ9, gC9, sA9, sZ9, sC9]
        refine wpAnyH_ready (rs := [3]) (by kernel_rfl) (by simp) ?_
        refine AllReadyH.cons rfl (fun K hK => ?_) AllReadyH.nil
        go_simp
        refine (HFn.out.my Y8d BY8d.out.1).mono ?_
        rintro e Z1 ⟨ma, mc, xs, rfl, hc, hr, hb⟩
        have HC1 : Hid (cos xs = cs) := hc
        have HR1 : Hid (RdFs Z1 ma xs) := hr
        have BY8dZ1 : Hid (Below Y8d.heap.size Y8d Z1) := hb
        have BZ1 : Hid (Below Vz.heap.size Vz Z1 ∧ Below Y8.heap.size Y8 Z1) := ⟨bstep BY8d.out.1 hb, bstep BY8d.out.2 hb⟩
        clear hc hr hb
        refine hK.out _ _ BZ1.out (fun hHeld => ?_)
        clear hK K
        try (simp only [Act.put, gA9, gZ9, gC9, sA9, sZ9, sC9])
        refine wpAnyH_ready (rs := [5]) (by kernel_rfl) (by simp) ?_
        refine AllReadyH.cons rfl (fun K hK => ?_) AllReadyH.nil
        go_simp
        refine (HFn.out.dt Z1 BZ1.out.1).mono ?_
        rintro e Z2 ⟨db, dbc, dm, rfl, hm, ha, hb⟩
        have HDm : Hid (MoT 37 Z1.heap.size Z2 (.slice db dn dbc) dm) := hm
        have HAl : Hid (Al dm mt) := ha
        have BZ1Z2 : Hid (Below Z1.heap.size Z1 Z2) := hb
        have BZ2 : Hid (Below Vz.heap.size Vz Z2 ∧ Below Y8.heap.size Y8 Z2) := ⟨bstep BZ1.out.1 hb, bstep BZ1.out.2 hb⟩
        clear hm ha hb
        refine hK.out _ _ BZ2.out (fun hHeld => ?_)
        clear hK K
        try (simp only [Act.put, gA9, gZ9, gC9, sA9, sZ9, sC9])
        refine wpAnyH_ready (rs := [6]) (by kernel_rfl) (by simp) ?_
        refine AllReadyH.cons rfl (fun K hK => ?_) AllReadyH.nil
        go_simp
        refine (HFn.out.qr Z2 ma mc xs db dbc dm _ HC1.out (HR1.out.still BZ1Z2.out) HDm.out HAl.out).mono ?_
        rintro e Z3 ⟨la, lc, l, E, rfl, hs, ho, hb⟩
        refine hK.out _ _ ⟨bstep BZ2.out.1 hb, bstep BZ2.out.2 hb⟩ (fun hHeld => ?_)
        clear hK K
        try (simp only [Act.put, gA9, gZ9, gC9, sA9, sZ9, sC9])
        refine wpAnyH_take (i := 7) (v := .tuple #[.slice la l.length lc, .int .i64 E]) rfl (by kernel_rfl) (by kernel_rfl) (by kernel_rfl) (fun _ _ _ h => h) (Or.inl ⟨by rfl, fun w' hS => by go_simp⟩) hHeld ?_
        simp only [Act.put, gA9, gZ9, gC9, sA9, sZ9, sC9]
        refine wpAnyH_take (i := 8) (v := .slice la l.length lc) rfl (by kernel_rfl) (by kernel_rfl) (by kernel_rfl) (fun _ _ _ h => h) (Or.inl ⟨by rfl, fun w' hS => by go_simp⟩) hHeld ?_
        simp only [Act.put, gA9, gZ9, gC9, sA9, sZ9, sC9]
        refine wpAnyH_take (i := 9) (v := .int .i64 E) rfl (by kernel_rfl) (by kernel_rfl) (by kernel_rfl) (fun _ _ _ h => h) (Or.inl ⟨by rfl, fun w' hS => by go_simp⟩) hHeld ?_
        simp only [Act.put, gA9, gZ9, gC9, sA9, sZ9, sC9]
        refine wpAnyH_take (i := 10) (v := .slice la l.length lc) rfl (by kernel_rfl) (by kernel_rfl) (by kernel_rfl) (fun _ _ _ h => h) (Or.inl ⟨by rfl, fun w' hS => by go_simp⟩) hHeld ?_
        simp only [Act.put, gA9, gZ9, gC9, sA9, sZ9, sC9]
        refine wpAnyH_take (i := 11) (v := .int .i64 E) rfl (by kernel_rfl) (by kernel_rfl) (by kernel_rfl) (fun _ _ _ h => h) (Or.inl ⟨by rfl, fun w' hS => by go_simp⟩) hHeld ?_
        simp only [Act.put, gA9, gZ9, gC9, sA9, sZ9, sC9]
        refine wpAnyH_done (by kernel_rfl) ?_ _
        clear hHeld
        go_wp2
        go_meet
        exact ⟨la, lc, l, E, rfl, rfl, hs, ho.lower (Nat.zero_le _), bstep BZ2.out.1 hb, bstep BZ2.out.2 hb⟩
      case rest =>
      obtain ⟨la9, lc9, l9, E9, rfl, rfl, hs, ho, hb, hb2⟩ := hcut
      generalize wc = Y9 at *
      have BY9 : Hid (Below Vz.heap.size Vz Y9) := hb
      have BY89 : Hid (Below Y8.heap.size Y8 Y9) := hb2
      obtain ⟨rfl, hal⟩ := HS4.out.eq hs
      have BY79 : Hid (Below Y7.heap.size Y7 Y9) := bstep BY78.out BY89.out
      have BY69 : Hid (Below Y6.heap.size Y6 Y9) := bstep BY67.out BY79.out
      have HSa : Hid (∀ X, Below Y9.heap.size Y9 X → Calls Try.prog 17 #[.slice la2 l2.length lc2, .slice la7 l2.length lc7] X fun e w' => e = .returned (.bool true) ∧ Below X.heap.size X w') := fun X hX => sameSlots_any (own_rdS (own_still HO23.out (bstep (bstep BY36.out BY69.out) hX)) rfl) (own_rdS (own_still HO7.out (bstep BY79.out hX)) rfl) HL2.out
      have HSb : Hid (∀ X, Below Y9.heap.size Y9 X → Calls Try.prog 17 #[.slice la3 l3.length lc3, .slice la8 l3.length lc8] X fun e w' => e = .returned (.bool true) ∧ Below X.heap.size X w') := fun X hX => sameSlots_any (own_rdS (own_still HO3.out (bstep (bstep BY36.out BY69.out) hX)) rfl) (own_rdS (own_still HO8.out (bstep BY89.out hX)) rfl) HL3.out
      have HSm : Hid (∀ X, Below Y9.heap.size Y9 X → Calls Try.prog 18 #[.slice la4 l4.length lc4, .slice la9 l9.length lc9] X fun e w' => e = .returned (.bool true) ∧ Below X.heap.size X w') := fun X hX => sameMsgs_any ((HM4.out.still (bstep (bstep BY46.out BY69.out) hX)).rd rfl HS4.out.r64) ((ho.still hX).rd rfl hs.r64) hal (by have := hs.len; omega)
      have HN : Hid (∀ (X : World) (E : Int), Calls Try.prog 16 #[.int .i64 E] X fun e w' => e = .returned (.int .i64 E) ∧ X = w') := fun X E => (num_any (w := X) E).mono fun _ _ h => ⟨h.1, h.2.symm⟩
      have HPy : Hid (∀ X, Below Y9.heap.size Y9 X → PlS Vb Vb.heap.size n ga ca go co dn (.slice da dn dc) X L3 mt (.slice a3 kk.wn c3)) := fun X hX => HPl.out.still (bstep BY9.out hX)
      clear hs ho hb hb2 hal HS4 HM4 HO23 HO3 HO7 HO8 HO2 HPl HXr HXq HFn BY89 BY79 BY69 BY78 BY67 BY36 BY26 BY46 BY34 BY23 BY9
      generalize l2.length = n2 at *
      generalize l3.length = n3 at *
      generalize l4.length = n4 at *
      generalize l9.length = n9 at *
      go_wp2_with (first
        | (go_at_call 16; refine (HN.out _ _).mono ?_; rintro e Vn ⟨rfl, rfl⟩)
        | (go_at_call 17; refine (HSa.out Y9 (Below.refl _ _)).mono ?_; rintro e G1 ⟨rfl, hg⟩; have BG1 : Hid (Below Y9.heap.size Y9 G1) := hg; clear hg HSa)
        | (go_at_call 17; refine (HSb.out G1 BG1.out).mono ?_; rintro e G2 ⟨rfl, hg⟩; have BG2 : Hid (Below Y9.heap.size Y9 G2) := bstep BG1.out hg; clear hg HSb)
        | (go_at_call 18; refine (HSm.out G2 BG2.out).mono ?_; rintro e G3 ⟨rfl, hg⟩; have BG3 : Hid (Below Y9.heap.size Y9 G3) := bstep BG2.out hg; clear hg HSm)
        | fail)
      have HPe : Hid (PlS Vb Vb.heap.size n ga ca go co dn (.slice da dn dc) G3 L3 mt (.slice a3 kk.wn c3)) := HPy.out G3 BG3.out
      trace_state
      exact ⟨⟨t + 1, L3, mt, by omega, by go_num, HPe.out⟩, by simp [intOf]; omega⟩
    · obtain rfl : t = 3 := by omega
      go_wp2
      go_ret
      exact ⟨rfl, by rw [Hkb.out]; have h := HB.out; exact h.trans (HL.out.b.mono (by have h2 := h.size; have h3 := Hkb.out; omega))⟩
end
end Go.Proofs.Ytihcaopcfhbofaa.Fm
