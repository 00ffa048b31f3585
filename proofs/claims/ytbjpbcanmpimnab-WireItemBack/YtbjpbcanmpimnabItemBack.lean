import Derived.Test.YtbjpbcanmpimnabMend4
import Derived.Test.YtbjpbcanmpimnabOpenItem
import Derived.Test.YtbjpbcanmpimnabRows
import Derived.SizedLaws
import Derived.WalkKit
import Derived.ProofKit
import Derived.OpenShut
import Derived.ShutString
import Derived.ChangeOld
import Derived.Below
namespace Go.Proofs.Ytbjpbcanmpimnab.wireItemBack
open Go.ChangeShapes Go.WideShapes Go.ChangeAt Go.RowKit
open Go.ChangeMaps (open_string shut_string)
open Lo Bk
set_option linter.unusedVariables false

theorem rd_none (w : World) : Rd w none 0 0 [] := ⟨rfl, fun _ => ⟨rfl, rfl⟩, .inl rfl, by simp⟩

set_option maxRecDepth 100000 in
set_option maxHeartbeats 4000000 in
theorem core (k s q st : Int) (ao : Option Addr) (cap : Nat) (bs0 : List Int) (p st2 ss sq : Int) (ao2 : Option Addr) (cap2 : Nat) (bs : List Int) (w : World) (hr0 : Rd w ao bs0.length cap bs0) (hnc0 : bs0.length ≤ cap) (hlen0 : bs0.length ≤ 140737488351232) (hr : Rd w ao2 bs.length cap2 bs) (hnc : bs.length ≤ cap2) (hlen : bs.length ≤ 140737488351232) :
    Calls Try.prog 3 #[.agg #[.int .i64 k, .int .i64 s, .int .i64 q, .int .i64 st, .slice ao bs0.length cap, .int .i64 p, .int .i64 st2, .int .i64 ss, .int .i64 sq], .slice ao2 bs.length cap2] w fun e w' => e = .returned (.bool true) ∧ Below w.heap.size w w' := by
  have H0 : Hid (Rd w ao bs0.length cap bs0) := hr0
  have H1 : Hid (Rd w ao2 bs.length cap2 bs) := hr
  clear hr0 hr
  go_enter Try.func3, Try.ntmps3
  go_wp2_with fail
  have HB0 : Hid (Below w.heap.size w (w.alloc (.cells #[.int .i64 k, .int .i64 s, .int .i64 q, .int .i64 st, .slice ao bs0.length cap, .int .i64 p, .int .i64 st2, .int .i64 ss, .int .i64 sq] 28))) := balloc (Below.refl _ _)
  generalize w.alloc (.cells #[.int .i64 k, .int .i64 s, .int .i64 q, .int .i64 st, .slice ao bs0.length cap, .int .i64 p, .int .i64 st2, .int .i64 ss, .int .i64 sq] 28) = W0 at *
  refine (mend_any k s q st ao cap bs0 p st2 ss sq W0 (H0.out.below HB0.out) hnc0 (by omega)).mono ?_
  rintro e w1 ⟨k1, s1, q1, t1, T, p1, u1, y1, z1, ab, cb, rfl, hok, hrT, ho, hb⟩
  obtain ⟨X, hX⟩ : ∃ X, itemX k1 s1 q1 t1 T p1 u1 y1 z1 = X := ⟨_, rfl⟩
  have hde := dec_of_enc k1 s1 q1 t1 T p1 u1 y1 z1 hok
  have hXl := itemX_len k1 s1 q1 t1 T p1 u1 y1 z1
  have hXr := itemX_range k1 s1 q1 t1 T p1 u1 y1 z1 hrT
  rw [hX] at hde hXl hXr
  have HOK : Hid (itemOK k1 s1 q1 t1 T.length p1 u1 y1 z1 = true ∧ itemX k1 s1 q1 t1 T p1 u1 y1 z1 = X ∧ resI X = (⟨k1, s1, q1, t1, T, p1, u1, y1, z1⟩, 0)) := ⟨hok, hX, resI_ok hde.1⟩
  have HT : Hid (∀ i, 0 ≤ T.getD i 0 ∧ T.getD i 0 ≤ 255) := hrT
  have HXr : Hid (∀ i, 0 ≤ X.getD i 0 ∧ X.getD i 0 ≤ 255) := hXr
  have hTl : T.length ≤ 256 := by
    rcases itemOK_full hok with ⟨_, _, _, _, h, _⟩ | ⟨_, _, _, _, _, _, _, _, rfl⟩
    · exact h
    · simp
  have h5 : ¬ ((X.length : Int) < 5) := by have := hde.2; omega
  have h300 : ¬ ((300 : Int) < (X.length : Int)) := by omega
  clear hok hX hde hXr hrT
  have E1 : Hid (Env (w1.alloc (.cells #[.int .i64 k1, .int .i64 s1, .int .i64 q1, .int .i64 t1, .slice ab T.length cb, .int .i64 p1, .int .i64 u1, .int .i64 y1, .int .i64 z1] 28)) [(w1.heap.size, #[.int .i64 k1, .int .i64 s1, .int .i64 q1, .int .i64 t1, .slice ab T.length cb, .int .i64 p1, .int .i64 u1, .int .i64 y1, .int .i64 z1])] [(W0.heap.size, .slice ab T.length cb, T)]) := ((Env.nil w1).own ho).alloc _ rfl
  have HB1 : Hid (Below w.heap.size w (w1.alloc (.cells #[.int .i64 k1, .int .i64 s1, .int .i64 q1, .int .i64 t1, .slice ab T.length cb, .int .i64 p1, .int .i64 u1, .int .i64 y1, .int .i64 z1] 28))) := balloc (bstep HB0.out hb)
  clear ho hb
  have cq := fun i => blk_cell (E1.out.1 (w1.heap.size, #[.int .i64 k1, .int .i64 s1, .int .i64 q1, .int .i64 t1, .slice ab T.length cb, .int .i64 p1, .int .i64 u1, .int .i64 y1, .int .i64 z1]) (by simp)).1 i
  go_wp2_with fail
  clear cq
  generalize w1.alloc (.cells #[.int .i64 k1, .int .i64 s1, .int .i64 q1, .int .i64 t1, .slice ab T.length cb, .int .i64 p1, .int .i64 u1, .int .i64 y1, .int .i64 z1] 28) = W1 at *
  generalize w1.heap.size = qb at *
  refine (encI_ok k1 s1 q1 t1 ab cb T p1 u1 y1 z1 X W1 (own_src (E1.out.2 (W0.heap.size, .slice ab T.length cb, T) (by simp)) HT.out) HOK.out.1 HOK.out.2.1).mono ?_
  rintro e w2 ⟨a2, c2, rfl, ho, hb⟩
  have E2 : Hid (Env w2 [(qb, #[.int .i64 k1, .int .i64 s1, .int .i64 q1, .int .i64 t1, .slice ab T.length cb, .int .i64 p1, .int .i64 u1, .int .i64 y1, .int .i64 z1])] [(W1.heap.size, .slice a2 X.length c2, X), (W0.heap.size, .slice ab T.length cb, T)]) := (E1.out.still hb).own ho
  have HB2 : Hid (Below w.heap.size w w2) := bstep HB1.out hb
  have hc2 : X.length ≤ c2 := own_le ho
  clear ho hb E1 HB1
  go_wp2_with fail
  refine (num_any _ _).mono ?_
  rintro e w' ⟨rfl, rfl⟩
  go_wp2_with fail
  refine (dec_eq a2 X.length c2 X w2 (own_src (E2.out.2 (W1.heap.size, .slice a2 X.length c2, X) (by simp)) HXr.out) hc2 k1 s1 q1 t1 T p1 u1 y1 z1 0 HOK.out.2.2).mono ?_
  rintro e w3 ⟨a3, c3, rfl, ho, hb⟩
  have E3 : Hid (Env (w3.alloc (.cells #[.int .i64 k1, .int .i64 s1, .int .i64 q1, .int .i64 t1, .slice a3 T.length c3, .int .i64 p1, .int .i64 u1, .int .i64 y1, .int .i64 z1] 28)) [(w3.heap.size, #[.int .i64 k1, .int .i64 s1, .int .i64 q1, .int .i64 t1, .slice a3 T.length c3, .int .i64 p1, .int .i64 u1, .int .i64 y1, .int .i64 z1]), (qb, #[.int .i64 k1, .int .i64 s1, .int .i64 q1, .int .i64 t1, .slice ab T.length cb, .int .i64 p1, .int .i64 u1, .int .i64 y1, .int .i64 z1])] [(w2.heap.size, .slice a3 T.length c3, T), (W1.heap.size, .slice a2 X.length c2, X), (W0.heap.size, .slice ab T.length cb, T)]) := ((E2.out.still hb).own ho).alloc _ rfl
  have HB3 : Hid (Below w.heap.size w (w3.alloc (.cells #[.int .i64 k1, .int .i64 s1, .int .i64 q1, .int .i64 t1, .slice a3 T.length c3, .int .i64 p1, .int .i64 u1, .int .i64 y1, .int .i64 z1] 28))) := balloc (bstep HB2.out hb)
  clear ho hb E2 HB2
  go_wp2_with fail
  generalize w3.alloc (.cells #[.int .i64 k1, .int .i64 s1, .int .i64 q1, .int .i64 t1, .slice a3 T.length c3, .int .i64 p1, .int .i64 u1, .int .i64 y1, .int .i64 z1] 28) = W3 at *
  generalize w3.heap.size = bb at *
  refine (num_any _ _).mono ?_
  rintro e w' ⟨rfl, rfl⟩
  have cq := fun i => blk_cell (E3.out.1 (qb, #[.int .i64 k1, .int .i64 s1, .int .i64 q1, .int .i64 t1, .slice ab T.length cb, .int .i64 p1, .int .i64 u1, .int .i64 y1, .int .i64 z1]) (by simp)).1 i
  have cb_ := fun i => blk_cell (E3.out.1 (bb, #[.int .i64 k1, .int .i64 s1, .int .i64 q1, .int .i64 t1, .slice a3 T.length c3, .int .i64 p1, .int .i64 u1, .int .i64 y1, .int .i64 z1]) (by simp)).1 i
  go_wp2_with fail
  clear cq cb_
  refine (sameI_any k1 s1 q1 t1 p1 u1 y1 z1 a3 ab T.length c3 cb T _ (own_src (E3.out.2 (w2.heap.size, .slice a3 T.length c3, T) (by simp)) HT.out) (own_src (E3.out.2 (W0.heap.size, .slice ab T.length cb, T) (by simp)) HT.out) (by omega)).mono ?_
  rintro e w4 ⟨rfl, hb⟩
  have HB4 : Hid (Below w.heap.size w w4) := bstep HB3.out hb
  clear hb E3 HB3
  go_wp2_with fail
  refine (copied_any ao2 bs.length cap2 bs w4 (H1.out.below HB4.out) (by omega)).mono ?_
  rintro e w5 ⟨v, rfl, ho, hb⟩
  obtain ⟨a5, c5, rfl⟩ := own_slice ho
  have O5 : Hid (Own w5 w4.heap.size (.slice a5 bs.length c5) bs) := ho
  have HB5 : Hid (Below w.heap.size w w5) := bstep HB4.out hb
  clear ho hb HB4
  go_wp2_with fail
  cases hd : decI bs with
  | error x =>
    have hx : (x != 0) = true := by have := decI_nz hd; simpa using this
    refine (dec_err ao2 bs.length cap2 bs w5 (H1.out.below HB5.out) hnc x hd).mono ?_
    rintro e w6 ⟨rfl, hb⟩
    have E6 : Hid (Env (w6.alloc (.cells #[.int .i64 0, .int .i64 0, .int .i64 0, .int .i64 0, .slice none 0 0, .int .i64 0, .int .i64 0, .int .i64 0, .int .i64 0] 28)) [(w6.heap.size, #[.int .i64 0, .int .i64 0, .int .i64 0, .int .i64 0, .slice none 0 0, .int .i64 0, .int .i64 0, .int .i64 0, .int .i64 0])] []) := (Env.nil w6).alloc _ rfl
    have HB6 : Hid (Below w.heap.size w (w6.alloc (.cells #[.int .i64 0, .int .i64 0, .int .i64 0, .int .i64 0, .slice none 0 0, .int .i64 0, .int .i64 0, .int .i64 0, .int .i64 0] 28))) := balloc (bstep HB5.out hb)
    clear hb hd HB5 O5
    go_wp2_with fail
    generalize w6.alloc (.cells #[.int .i64 0, .int .i64 0, .int .i64 0, .int .i64 0, .slice none 0 0, .int .i64 0, .int .i64 0, .int .i64 0, .int .i64 0] 28) = W6 at *
    generalize w6.heap.size = xb at *
    refine (num_any _ _).mono ?_
    rintro e w' ⟨rfl, rfl⟩
    have cx := fun i => blk_cell (E6.out.1 (xb, #[.int .i64 0, .int .i64 0, .int .i64 0, .int .i64 0, .slice none 0 0, .int .i64 0, .int .i64 0, .int .i64 0, .int .i64 0]) (by simp)).1 i
    go_wp2_with fail
    clear cx
    refine (sameI_any 0 0 0 0 0 0 0 0 none none 0 0 0 [] _ (rd_none _) (rd_none _) (by omega)).mono ?_
    rintro e w7 ⟨rfl, hb⟩
    have HF : Hid (Below w.heap.size w w7) := bstep HB6.out hb
    clear hb
    go_wp2_with fail
    go_ret
    exact ⟨rfl, HF⟩
  | ok it =>
    obtain ⟨k2, s2, q2, t2, U, p2, u2, y2, z2⟩ := it
    have hed := enc_of_dec bs H1.out.2.2.2 _ hd
    simp only at hed
    have HI : Hid (itemOK k2 s2 q2 t2 U.length p2 u2 y2 z2 = true ∧ itemX k2 s2 q2 t2 U p2 u2 y2 z2 = bs) := hed
    have hUr := resI_range bs H1.out.2.2.2
    rw [resI_ok hd] at hUr
    simp only at hUr
    have HU : Hid (∀ i, 0 ≤ U.getD i 0 ∧ U.getD i 0 ≤ 255) := hUr
    refine (dec_eq ao2 bs.length cap2 bs w5 (H1.out.below HB5.out) hnc k2 s2 q2 t2 U p2 u2 y2 z2 0 (resI_ok hd)).mono ?_
    rintro e w6 ⟨a6, c6, rfl, ho, hb⟩
    have E6 : Hid (Env (w6.alloc (.cells #[.int .i64 k2, .int .i64 s2, .int .i64 q2, .int .i64 t2, .slice a6 U.length c6, .int .i64 p2, .int .i64 u2, .int .i64 y2, .int .i64 z2] 28)) [(w6.heap.size, #[.int .i64 k2, .int .i64 s2, .int .i64 q2, .int .i64 t2, .slice a6 U.length c6, .int .i64 p2, .int .i64 u2, .int .i64 y2, .int .i64 z2])] [(w5.heap.size, .slice a6 U.length c6, U), (w4.heap.size, .slice a5 bs.length c5, bs)]) := ((((Env.nil w5).own O5.out).still hb).own ho).alloc _ rfl
    have HB6 : Hid (Below w.heap.size w (w6.alloc (.cells #[.int .i64 k2, .int .i64 s2, .int .i64 q2, .int .i64 t2, .slice a6 U.length c6, .int .i64 p2, .int .i64 u2, .int .i64 y2, .int .i64 z2] 28))) := balloc (bstep HB5.out hb)
    clear ho hb hd hed hUr HB5 O5
    go_wp2_with fail
    generalize w6.alloc (.cells #[.int .i64 k2, .int .i64 s2, .int .i64 q2, .int .i64 t2, .slice a6 U.length c6, .int .i64 p2, .int .i64 u2, .int .i64 y2, .int .i64 z2] 28) = W6 at *
    generalize w6.heap.size = xb at *
    refine (num_any _ _).mono ?_
    rintro e w' ⟨rfl, rfl⟩
    have cx := fun i => blk_cell (E6.out.1 (xb, #[.int .i64 k2, .int .i64 s2, .int .i64 q2, .int .i64 t2, .slice a6 U.length c6, .int .i64 p2, .int .i64 u2, .int .i64 y2, .int .i64 z2]) (by simp)).1 i
    go_wp2_with fail
    clear cx
    refine (encI_ok k2 s2 q2 t2 a6 c6 U p2 u2 y2 z2 bs W6 (own_src (E6.out.2 (w5.heap.size, .slice a6 U.length c6, U) (by simp)) HU.out) HI.out.1 HI.out.2).mono ?_
    rintro e w7 ⟨a7, c7, rfl, ho, hb⟩
    have O7 : Hid (Own w7 W6.heap.size (.slice a7 bs.length c7) bs) := ho
    have E7 := E6.out.still hb
    have O5 : Hid (Own w7 w4.heap.size (.slice a5 bs.length c5) bs) := E7.2 (w4.heap.size, .slice a5 bs.length c5, bs) (by simp)
    have HB7 : Hid (Below w.heap.size w w7) := bstep HB6.out hb
    clear ho hb E6 E7 HB6
    go_wp2_with fail
    refine (num_any _ _).mono ?_
    rintro e w' ⟨rfl, rfl⟩
    go_wp2_with fail
    refine (same_any a7 a5 bs.length c7 c5 bs w7 (own_src O7.out H1.out.2.2.2) (own_src O5.out H1.out.2.2.2) (by omega)).mono ?_
    rintro e w8 ⟨rfl, hb⟩
    have HF : Hid (Below w.heap.size w w8) := bstep HB7.out hb
    clear hb
    go_wp2_with fail
    go_ret
    exact ⟨rfl, HF⟩

set_option maxRecDepth 100000 in
theorem lifted (os : Os) (started : os.Started) (H : Type) (enc : TypeId × Value → H) :
    ReturnsInHanded {} Try.checked os 3 .any (Rows.wireItemBackSpec.pre6 enc Try.prog Try.f3 Rows.wireItemBackRow.domain false) (Rows.wireItemBackSpec.post enc Try.prog Try.f3 false true false false) := by
  refine returnsInHanded_of_change_sized (C := Try.checked) Op.own started (by kernel_rfl) Try.func3
    (ChangeSpec.witness6 (enc := enc) (C := Try.checked) false ⟨#[], #[.agg #[.int .i64 0, .int .i64 0, .int .i64 0, .int .i64 0, .slice none 0 0, .int .i64 0, .int .i64 0, .int .i64 0, .int .i64 0], .slice none 0 0], []⟩ 8 (by kernel_rfl) (by kernel_rfl) (by kernel_rfl) (by kernel_rfl)) ?_
  intro W base args ds gs before hval0 hW hcnd hsz0 _
  have hsz : (DataW.weightsEach Try.prog (Try.f3.params.toList ++ Rows.wireItemBackSpec.plain.varTypes Try.prog) (ds ++ gs)).all (· ≤ reachBytes) = true := hsz0
  clear hsz0
  have hval : ∀ (j : Nat) t v, Try.f3.params[j]? = some t → args[j]? = some v → Value.okWide Try.prog W .any base t v := hval0
  have hW' := hW
  obtain ⟨p, q, hA0, hV, rfl, hfz, hnd⟩ := hW
  have hA : DataW.TrodAll enc Try.prog W 0 (fun _ => true) true Try.f3.params.toList args.toList ds p := hA0
  rw [Try.params3] at hA hval hsz
  obtain ⟨v0, vs0, d0, ds0, p0, q0, hargs, rfl, rfl, h0, r0⟩ := trodAll_cons hA
  obtain ⟨v1, vs1, d1, ds1, p1, q1, rfl, rfl, rfl, h1, r1⟩ := trodAll_cons r0
  obtain ⟨rfl, rfl, rfl⟩ := trodAll_nil r1
  obtain rfl : args = #[v0, v1] := by cases args; simp_all
  obtain ⟨rfl, rfl⟩ := trodVars_none hV
  have k0 := h0
  have lt0 : ∀ x ∈ p0, x.block < W.heap.size := by obtain ⟨m, hm⟩ := k0; exact DataW.trod_lt m _ _ _ hm
  obtain ⟨k, s, q, st, a0, len0, cap0, z0, po, st2, ss, sq, rfl, w0, wpo, rc⟩ := Op.open_item (hval 0 28 v0 rfl rfl) h0
  have rc0 := rc (List.all_eq_true.2 fun n hn => List.all_eq_true.1 hsz n (DataW.weights_mem_each (j := 0) rfl rfl n hn))
  obtain ⟨b0, blen, bcap, rfl⟩ := okWide_slice Try.underlying22 (hval 1 22 v1 rfl rfl)
  have k1 := h1
  have lt1 : ∀ x ∈ p1, x.block < W.heap.size := by obtain ⟨m, hm⟩ := k1; exact DataW.trod_lt m _ _ _ hm
  obtain ⟨z1, w1, rc1⟩ : ∃ zs, Op.IsRow .u8 W b0 blen bcap zs ∧ bcap ≤ 140737488351232 := by
    obtain ⟨fuel, hf⟩ := h1
    rcases open_ints Try.underlying22 Try.underlying5 (by kernel_rfl) hf with ⟨hcs, _⟩ | ⟨x, l, c, zs, hcs, _, hl, hm, hz, hx, hcell, hwz⟩
    · simp [Value.cells] at hcs
      obtain ⟨rfl, rfl, rfl⟩ := hcs
      exact ⟨[], .inl ⟨rfl, rfl, rfl, rfl⟩, Nat.zero_le _⟩
    · simp [Value.cells] at hcs
      obtain ⟨rfl, rfl, rfl⟩ := hcs
      refine ⟨zs, .inr ⟨_, rfl, hl, hm, by simpa using hz, hcell, hwz⟩, ?_⟩
      simp only [Prod.mk.injEq] at hx
      obtain ⟨hx, _⟩ := hx
      have hb : Try.prog.bytesOf 5 = 1 := by kernel_rfl
      have hs := sized_slice hsz (j := 1) (t := 22) (e := 5) (elems := lits .u8 (zs.take blen)) (spare := lits .u8 (zs.drop blen)) rfl (by rw [hx]; rfl) Try.underlying22
      rw [hb] at hs
      simp only [lits, List.length_map, List.length_take, List.length_drop, reachBytes] at hs
      simp only [if_true] at hz
      omega
  clear hA0 hval0
  have hrd := Op.rd_of_row w0
  have hrd1 := Op.rd_of_row w1
  have hl : len0 ≤ cap0 := by rcases w0 with ⟨_, h1, _, _⟩ | ⟨x, _, hl, _⟩ <;> omega
  have hl1 : blen ≤ bcap := by rcases w1 with ⟨_, h1, _, _⟩ | ⟨x, _, hl, _⟩ <;> omega
  have hc := core k s q st a0 cap0 (z0.take len0) po st2 ss sq b0 bcap (z1.take blen) W hrd.1 (by have := hrd.2; omega) (by have := hrd.2; omega) hrd1.1 (by have := hrd1.2; omega) (by have := hrd1.2; omega)
  rw [hrd.2, hrd1.2] at hc
  refine hc.mono fun e W' ⟨he, bel⟩ => ?_
  subst he
  exact ⟨_, rfl, _, _, _, [], _, [], hW', trodAll_mk1 (shut_bool Try.underlying4 _), (trodAll_cons_mk (Below.trod Op.laidOut (by kernel_rfl) (of_decide_eq_true (by kernel_rfl)) k0 bel lt0) (trodAll_cons_mk (Below.trod Op.laidOut (by kernel_rfl) (of_decide_eq_true (by kernel_rfl)) k1 bel lt1) trodAll_mk0)), rfl, bel.frame _, fun h => by cases h⟩

theorem over : Rows.wireItemBackRow.holds Try.pinned (OpenSpec.ofChange Rows.wireItemBackSpec) :=
  OpenClaim.holds_of_wide 3 Try.f3 rfl rfl rfl rfl rfl rfl rfl ⟨rfl, rfl, rfl, rfl, rfl⟩ rfl rfl rfl rfl rfl (by kernel_rfl) Try.func3 (by kernel_rfl)
    (of_decide_eq_true (by kernel_rfl)) (by unfold Func.isWrapper; first | (rw [if_pos (by decide +kernel)]; kernel_rfl) | (rw [if_neg (by decide +kernel)]; exact ⟨rfl, rfl⟩))
    (fun os started H enc _ => lifted os started H enc)

theorem proved : Rows.WireItemBackSaid := over
end Go.Proofs.Ytbjpbcanmpimnab.wireItemBack

namespace Go.Proofs.Ytbjpbcanmpimnab
theorem wireItemBack_holds : Rows.WireItemBackSaid := wireItemBack.proved
end Go.Proofs.Ytbjpbcanmpimnab
