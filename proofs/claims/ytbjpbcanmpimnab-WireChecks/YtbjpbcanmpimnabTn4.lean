import Derived.Test.YtbjpbcanmpimnabTn5
import Derived.Deep.AppendLies
namespace Go.Proofs.Ytbjpbcanmpimnab.Lo
open Go.RowKit Bk
set_option linter.unusedVariables false
set_option linter.unusedSimpArgs false

theorem TS.start {w W : World} {P Q : Pk} {L : List (TypeId × Nat × Value × Nat × List Value)} {ds : List Dt} {bb : List (List Int)} (t : T3 w W P Pk.zero { Q with wmA := none, wmN := 0, wmC := 0 }) (l : RowL w W L) (n : ∀ r ∈ L, r.1 ≠ 24) : TS w W P Q L ds bb 0 none 0 [] :=
  ⟨t, l, n, ⟨rfl, .inl ⟨rfl, rfl⟩⟩, rfl, fun i hi => by omega, fun i hi => by omega⟩

theorem rdt_at {w : World} {n j : Nat} {ds : List Dt} {bb : List (List Int)} (h : ∀ i, i < n → Rd w (ds.getD i dt0).a (ds.getD i dt0).n (ds.getD i dt0).c (bb.getD i []) ∧ (ds.getD i dt0).n ≤ 140737488351232) (hj : j < n) : Rd w (ds.getD j dt0).a (ds.getD j dt0).n (ds.getD j dt0).c (bb.getD j []) ∧ (ds.getD j dt0).n ≤ 140737488351232 := h j hj

theorem own_setKM {W : World} {B B' e s n k i : Nat} {v u : Value} {l : List Value} (h : W.ownsRow B e s v n l) (hk : k < B) (hB : B' ≤ B) : (W.setCell ⟨k, i, none⟩ u).ownsRow B' e s v n l :=
  have h' := own_setK (i := i) (u := u) h hk
  ⟨h'.1, h'.2.imp id fun ⟨g, cap, cur, e1, e2, e3⟩ => ⟨g, cap, cur, e1, by omega, e3⟩⟩
theorem row_shape {W : World} {B e s n : Nat} {v : Value} {l : List Value} (h : W.ownsRow B e s v n l) : ∃ a c, v = .slice a n c := by
  rcases h.2 with ⟨h1, h2⟩ | ⟨g, cap, cur, hv, _⟩
  · exact ⟨none, 0, by rw [h2]; exact h1⟩
  · exact ⟨_, _, hv⟩

set_option maxRecDepth 100000 in
set_option maxHeartbeats 8000000 in
theorem twin_any (P : Pk) (xs ss vs hs bs : List Int) (sl : List (Int × Int)) (ds : List Dt) (bb : List (List Int)) (w : World) (hp : Pw w P xs ss vs hs sl ds) (hn : Pn P) (d1 : Rd w P.tbA P.tbN P.tbC bs) (hbd : ∀ i, i < P.wmN → Rd w (ds.getD i dt0).a (ds.getD i dt0).n (ds.getD i dt0).c (bb.getD i []) ∧ (ds.getD i dt0).n ≤ 140737488351232) :
    Calls Try.prog 21 #[.agg P.cs] w fun e w' => ∃ (Q : Pk) (es : List Dt), e = .returned (.agg Q.cs) ∧ Mate P Q ∧ Pw w' Q xs ss vs hs sl es ∧ Rd w' Q.tbA Q.tbN Q.tbC bs ∧ Sam w' P.wmN ds es bb ∧ Below w.heap.size w w' := by
  obtain ⟨i0, hi, hz0, hz1, hz2⟩ := info_parts info_int
  obtain ⟨i1, ki, kz0, kz1, kz2⟩ := info_parts info_slot
  obtain ⟨i4, qi, qz0, qz1, qz2⟩ := info_parts info_data
  have HP : Hid (Pw w P xs ss vs hs sl ds) := hp
  have HN : Hid (Pn P) := hn
  have D1 : Hid (Rd w P.tbA P.tbN P.tbC bs) := d1
  have HBD : Hid (∀ i, i < P.wmN → Rd w (ds.getD i dt0).a (ds.getD i dt0).n (ds.getD i dt0).c (bb.getD i []) ∧ (ds.getD i dt0).n ≤ 140737488351232) := hbd
  clear hp hn d1 hbd
  have B1 : Hid (∀ o, Bl w ((w.alloc (.cells P.cs 72)).alloc o) w.heap.size P.cs) := fun o => (Bl.new w _).still (balloc (Below.refl _ _))
  obtain ⟨Q1, hQ1⟩ : ∃ Q : Pk, Q = P := ⟨_, rfl⟩
  go_enter Try.func21, Try.ntmps21
  go_wp2_with (first
    | (refine load_pk (.tmp 1) (B1.out _) rfl rfl rfl ?_)
    | (have hB := B1; refine store_first rfl (.tmp 3) (.tmp 6) rfl rfl rfl ?_; clear hB B1; intro W1 T1; have HT1 : Hid (T3 w W1 P Pk.zero Q1) := (by rw [hQ1]; exact T1); have RL1 : Hid (RowL w W1 []) := RowL.nil w W1; have g1 := fun o => (T1.still (balloc (o := o) (Below.refl _ _))).cp 6 P.c6; clear T1)
    | (go_at_call 12; refine (copied_any P.tbA P.tbN P.tbC bs _ (D1.out.below HT6.out.l) (by have := HN.out.ltb; omega)).mono ?_; rintro e w2 ⟨v', rfl, ho, hb⟩; obtain ⟨a6, c6, rfl, hrow⟩ := own_shape D1.out.1 ho (by have := lt_heap HT6.out.q; omega : w.heap.size + 1 + 1 + 1 ≤ W6.heap.size); have t2 := HT6.out.still hb; have o6 := t2.cq 34 Q6.c34; have f6 := t2.fq 34; obtain ⟨Q7, hQ7⟩ : ∃ Q : Pk, Q = { Q6 with tbA := a6, tbN := P.tbN, tbC := c6 } := ⟨_, rfl⟩; obtain ⟨W7, hW7⟩ : ∃ X, w2.setCell ⟨w.heap.size + 1 + 1, 34, none⟩ (.slice a6 P.tbN c6) = X := ⟨_, rfl⟩; have HT7 : Hid (T3 w W7 P Pk.zero Q7) := (by rw [← hW7, hQ7]; exact t2.set 34 _ rfl); have RL7 : Hid (RowL w W7 ((5, 1, .slice a6 P.tbN c6, P.tbN, bs.map (Value.int .u8)) :: (3, 1, .slice a5 P.fhN c5, P.fhN, (hs.map (Value.int .i64))) :: (26, 2, .slice a4 P.fsN c4, P.fsN, (slotCells sl)) :: (3, 1, .slice a3 P.pvN c3, P.pvN, (vs.map (Value.int .i64))) :: (3, 1, .slice a2 P.psN c2, P.psN, (ss.map (Value.int .i64))) :: (3, 1, .slice a1 P.hN c1, P.hN, (xs.map (Value.int .i64))) :: [])) := (by rw [← hW7]; exact (((RL6.out.still hb).cons (r := (5, 1, .slice a6 P.tbN c6, P.tbN, bs.map (Value.int .u8))) hrow).set 34 _)); have o7 := HT7.out.cq 44 Q7.c44; have f7 := HT7.out.fq 44; obtain ⟨Q8, hQ8⟩ : ∃ Q : Pk, Q = { Q7 with wmA := none, wmN := 0, wmC := 0 } := ⟨_, rfl⟩; obtain ⟨W8, hW8⟩ : ∃ X, W7.setCell ⟨w.heap.size + 1 + 1, 44, none⟩ (.slice none 0 0) = X := ⟨_, rfl⟩; have HT8 : Hid (T3 w W8 P Pk.zero Q8) := (by rw [← hW8, hQ8]; exact HT7.out.set 44 _ rfl); have RL8 : Hid (RowL w W8 ((5, 1, .slice a6 P.tbN c6, P.tbN, bs.map (Value.int .u8)) :: (3, 1, .slice a5 P.fhN c5, P.fhN, (hs.map (Value.int .i64))) :: (26, 2, .slice a4 P.fsN c4, P.fsN, (slotCells sl)) :: (3, 1, .slice a3 P.pvN c3, P.pvN, (vs.map (Value.int .i64))) :: (3, 1, .slice a2 P.psN c2, P.psN, (ss.map (Value.int .i64))) :: (3, 1, .slice a1 P.hN c1, P.hN, (xs.map (Value.int .i64))) :: [])) := (by rw [← hW8]; exact RL7.out.set 44 _); clear t2 ho hb hrow)
    | (at_builtin; refine copy_append HT5.out RL5.out rfl _ _ 52 3 rfl i0 _ 1 8 Try.underlying52 hi hz0 hz1 hz2 rfl (by decide) rfl P.fhA P.fhN P.fhC (hs.map (Value.int .i64)) rfl HN.out.fh (by rw [List.length_map, HP.out.fh.1, Nat.mul_one]) HP.out.fh.cellsW (ints_one hs) (by have := HN.out.lfh; unfold maxLen; omega) (by have := HN.out.lfh; omega) ?_; intro a5 c5 w2 t2 r2; have o5 := t2.cq 22 Q5.c22; have f5 := t2.fq 22; obtain ⟨Q6, hQ6⟩ : ∃ Q : Pk, Q = { Q5 with fhA := a5, fhN := P.fhN, fhC := c5 } := ⟨_, rfl⟩; obtain ⟨W6, hW6⟩ : ∃ X, w2.setCell ⟨w.heap.size + 1 + 1, 22, none⟩ (.slice a5 P.fhN c5) = X := ⟨_, rfl⟩; have HT6 : Hid (T3 w W6 P Pk.zero Q6) := (by rw [← hW6, hQ6]; exact t2.set 22 _ rfl); have RL6 : Hid (RowL w W6 ((3, 1, .slice a5 P.fhN c5, P.fhN, (hs.map (Value.int .i64))) :: (26, 2, .slice a4 P.fsN c4, P.fsN, (slotCells sl)) :: (3, 1, .slice a3 P.pvN c3, P.pvN, (vs.map (Value.int .i64))) :: (3, 1, .slice a2 P.psN c2, P.psN, (ss.map (Value.int .i64))) :: (3, 1, .slice a1 P.hN c1, P.hN, (xs.map (Value.int .i64))) :: [])) := (by rw [← hW6]; exact r2.set 22 _); have g6 := HT6.out.cp 34 P.c34; clear t2 r2)
    | (at_builtin; refine copy_append HT4.out RL4.out rfl _ _ 59 26 rfl i1 _ 2 16 Try.underlying59 ki kz0 kz1 kz2 rfl (by decide) rfl P.fsA P.fsN P.fsC (slotCells sl) rfl HN.out.fs (by rw [slotCells_len, HP.out.fs.1]) HP.out.fs.cellsW (slotCells_one sl) (by have := HN.out.lfs; unfold maxLen; omega) (by have := HN.out.lfs; omega) ?_; intro a4 c4 w2 t2 r2; have o4 := t2.cq 21 Q4.c21; have f4 := t2.fq 21; obtain ⟨Q5, hQ5⟩ : ∃ Q : Pk, Q = { Q4 with fsA := a4, fsN := P.fsN, fsC := c4 } := ⟨_, rfl⟩; obtain ⟨W5, hW5⟩ : ∃ X, w2.setCell ⟨w.heap.size + 1 + 1, 21, none⟩ (.slice a4 P.fsN c4) = X := ⟨_, rfl⟩; have HT5 : Hid (T3 w W5 P Pk.zero Q5) := (by rw [← hW5, hQ5]; exact t2.set 21 _ rfl); have RL5 : Hid (RowL w W5 ((26, 2, .slice a4 P.fsN c4, P.fsN, (slotCells sl)) :: (3, 1, .slice a3 P.pvN c3, P.pvN, (vs.map (Value.int .i64))) :: (3, 1, .slice a2 P.psN c2, P.psN, (ss.map (Value.int .i64))) :: (3, 1, .slice a1 P.hN c1, P.hN, (xs.map (Value.int .i64))) :: [])) := (by rw [← hW5]; exact r2.set 21 _); have g5 := fun o => (HT5.out.still (balloc (o := o) (Below.refl _ _))).cp 22 P.c22; clear t2 r2)
    | (at_builtin; refine copy_append HT3.out RL3.out rfl _ _ 52 3 rfl i0 _ 1 8 Try.underlying52 hi hz0 hz1 hz2 rfl (by decide) rfl P.pvA P.pvN P.pvC (vs.map (Value.int .i64)) rfl HN.out.pv (by rw [List.length_map, HP.out.pv.1, Nat.mul_one]) HP.out.pv.cellsW (ints_one vs) (by have := HN.out.lpv; unfold maxLen; omega) (by have := HN.out.lpv; omega) ?_; intro a3 c3 w2 t2 r2; have o3 := t2.cq 15 Q3.c15; have f3 := t2.fq 15; obtain ⟨Q4, hQ4⟩ : ∃ Q : Pk, Q = { Q3 with pvA := a3, pvN := P.pvN, pvC := c3 } := ⟨_, rfl⟩; obtain ⟨W4, hW4⟩ : ∃ X, w2.setCell ⟨w.heap.size + 1 + 1, 15, none⟩ (.slice a3 P.pvN c3) = X := ⟨_, rfl⟩; have HT4 : Hid (T3 w W4 P Pk.zero Q4) := (by rw [← hW4, hQ4]; exact t2.set 15 _ rfl); have RL4 : Hid (RowL w W4 ((3, 1, .slice a3 P.pvN c3, P.pvN, (vs.map (Value.int .i64))) :: (3, 1, .slice a2 P.psN c2, P.psN, (ss.map (Value.int .i64))) :: (3, 1, .slice a1 P.hN c1, P.hN, (xs.map (Value.int .i64))) :: [])) := (by rw [← hW4]; exact r2.set 15 _); have g4 := fun o => (HT4.out.still (balloc (o := o) (Below.refl _ _))).cp 21 P.c21; clear t2 r2)
    | (at_builtin; refine copy_append HT2.out RL2.out rfl _ _ 52 3 rfl i0 _ 1 8 Try.underlying52 hi hz0 hz1 hz2 rfl (by decide) rfl P.psA P.psN P.psC (ss.map (Value.int .i64)) rfl HN.out.ps (by rw [List.length_map, HP.out.ps.1, Nat.mul_one]) HP.out.ps.cellsW (ints_one ss) (by have := HN.out.lps; unfold maxLen; omega) (by have := HN.out.lps; omega) ?_; intro a2 c2 w2 t2 r2; have o2 := t2.cq 7 Q2.c7; have f2 := t2.fq 7; obtain ⟨Q3, hQ3⟩ : ∃ Q : Pk, Q = { Q2 with psA := a2, psN := P.psN, psC := c2 } := ⟨_, rfl⟩; obtain ⟨W3, hW3⟩ : ∃ X, w2.setCell ⟨w.heap.size + 1 + 1, 7, none⟩ (.slice a2 P.psN c2) = X := ⟨_, rfl⟩; have HT3 : Hid (T3 w W3 P Pk.zero Q3) := (by rw [← hW3, hQ3]; exact t2.set 7 _ rfl); have RL3 : Hid (RowL w W3 ((3, 1, .slice a2 P.psN c2, P.psN, (ss.map (Value.int .i64))) :: (3, 1, .slice a1 P.hN c1, P.hN, (xs.map (Value.int .i64))) :: [])) := (by rw [← hW3]; exact r2.set 7 _); have g3 := fun o => (HT3.out.still (balloc (o := o) (Below.refl _ _))).cp 15 P.c15; clear t2 r2)
    | (at_builtin; refine copy_append HT1.out RL1.out rfl _ _ 52 3 rfl i0 _ 1 8 Try.underlying52 hi hz0 hz1 hz2 rfl (by decide) rfl P.hA P.hN P.hC (xs.map (Value.int .i64)) rfl HN.out.h (by rw [List.length_map, HP.out.h.1, Nat.mul_one]) HP.out.h.cellsW (ints_one xs) (by have := HN.out.lh; unfold maxLen; omega) (by have := HN.out.lh; omega) ?_; intro a1 c1 w2 t2 r2; have o1 := t2.cq 6 Q1.c6; have f1 := t2.fq 6; obtain ⟨Q2, hQ2⟩ : ∃ Q : Pk, Q = { Q1 with hA := a1, hN := P.hN, hC := c1 } := ⟨_, rfl⟩; obtain ⟨W2, hW2⟩ : ∃ X, w2.setCell ⟨w.heap.size + 1 + 1, 6, none⟩ (.slice a1 P.hN c1) = X := ⟨_, rfl⟩; have HT2 : Hid (T3 w W2 P Pk.zero Q2) := (by rw [← hW2, hQ2]; exact t2.set 6 _ rfl); have RL2 : Hid (RowL w W2 ((3, 1, .slice a1 P.hN c1, P.hN, (xs.map (Value.int .i64))) :: [])) := (by rw [← hW2]; exact r2.set 6 _); have g2 := fun o => (HT2.out.still (balloc (o := o) (Below.refl _ _))).cp 7 P.c7; clear t2 r2)
    | fail)
  obtain ⟨LL, hLL⟩ : ∃ l : List (TypeId × Nat × Value × Nat × List Value), l = (5, 1, .slice a6 P.tbN c6, P.tbN, bs.map (Value.int .u8)) :: (3, 1, .slice a5 P.fhN c5, P.fhN, (hs.map (Value.int .i64))) :: (26, 2, .slice a4 P.fsN c4, P.fsN, (slotCells sl)) :: (3, 1, .slice a3 P.pvN c3, P.pvN, (vs.map (Value.int .i64))) :: (3, 1, .slice a2 P.psN c2, P.psN, (ss.map (Value.int .i64))) :: (3, 1, .slice a1 P.hN c1, P.hN, (xs.map (Value.int .i64))) :: [] := ⟨_, rfl⟩
  have HS0 : Hid (TS w W8 P Q7 LL ds bb 0 none 0 []) := TS.start (by rw [← hQ8]; exact HT8.out) (by rw [hLL]; exact RL8.out) (by rw [hLL]; simp)
  clear o1 f1 o2 f2 o3 f3 o4 f4 o5 f5 o6 f6 o7 f7 g1 g2 g3 g4 g5 g6 hW2 hW3 hW4 hW5 hW6 hW7 hW8
  clear HT1 HT2 HT3 HT4 HT5 HT6 HT7 HT8 RL1 RL2 RL3 RL4 RL5 RL6 RL7 RL8
  go_loopw [4] (fun x wr => ∃ (j : Nat) (aj : Option Addr) (cj : Nat) (es : List Dt), j ≤ P.wmN ∧ x = .int .i64 j ∧ Hid (TS w wr P Q7 LL ds bb j aj cj es)) (fun x _ => P.wmN - (intOf x).toNat)
  case atStart => exact ⟨0, none, 0, [], Nat.zero_le _, rfl, HS0⟩
  case round =>
    obtain ⟨j, aj, cj, es, hj, rfl, HTS⟩ := hrel
    have hp44 := HTS.out.t.cp 44 P.c44
    have hwm : P.wmN ≤ 140737488355328 := HP.out.lwm
    by_cases hjn : j < P.wmN
    · obtain ⟨b, off, hA, x1, x2, x3, x4⟩ := row_at (HP.out.wm.below HTS.out.t.l) hjn
      rw [hA] at hp44
      obtain ⟨r1, r2⟩ := HBD.out j hjn
      have RB : Hid (Rd wr (ds.getD j dt0).a (ds.getD j dt0).n (ds.getD j dt0).c (bb.getD j [])) := r1.below HTS.out.t.l
      obtain ⟨s, hs'⟩ : ∃ x, (ds.getD j dt0).s = x := ⟨_, rfl⟩
      obtain ⟨q, hq'⟩ : ∃ x, (ds.getD j dt0).q = x := ⟨_, rfl⟩
      obtain ⟨st, hst'⟩ : ∃ x, (ds.getD j dt0).st = x := ⟨_, rfl⟩
      obtain ⟨m, hm'⟩ : ∃ x, (ds.getD j dt0).n = x := ⟨_, rfl⟩
      obtain ⟨xa, ha'⟩ : ∃ x, (ds.getD j dt0).a = x := ⟨_, rfl⟩
      obtain ⟨xc, hc'⟩ : ∃ x, (ds.getD j dt0).c = x := ⟨_, rfl⟩
      obtain ⟨bj, hb'⟩ : ∃ x, bb.getD j [] = x := ⟨_, rfl⟩
      have HE : Hid (s = (ds.getD j dt0).s ∧ q = (ds.getD j dt0).q ∧ st = (ds.getD j dt0).st ∧ m = (ds.getD j dt0).n) := ⟨hs'.symm, hq'.symm, hst'.symm, hm'.symm⟩
      have HBJ : Hid (bj = bb.getD j []) := hb'.symm
      rw [hs'] at x1
      rw [hq'] at x2
      rw [hst'] at x3
      rw [ha', hm', hc'] at x4
      rw [ha', hm', hc', hb'] at RB
      rw [hm'] at r2
      clear hs' hq' hst' hm' ha' hc' hb' r1
      have i1 : (0 : Int) ≤ (j : Int) := Int.natCast_nonneg _
      have i2 : (j : Int) < (P.wmN : Int) := by omega
      go_wp2_with (first
        | (at_builtin; refine wpList_append_own _ rfl _ _ 68 rfl (w.heap.size + 1 + 1 + 1) 24 i4 _ 4 48 Try.underlying68 qi qz0 qz1 qz2 rfl (by decide) (.slice aj j cj) j (datCells es) rfl (own_still hTb.out.o ((Below.refl _ _).alloc (Nat.le_refl _) _)) ⟨Wb.heap.size, 0, none⟩ 1 1 [.int .i64 s, .int .i64 q, .int .i64 st, .slice a' m c'] rfl rfl (World.news_of_block (cs := #[.int .i64 s, .int .i64 q, .int .i64 st, .slice a' m c']) (t := 24) (fr := (0, 0)) (heap_alloc_new Wb _)) (by intro u hu; simp at hu; rcases hu with rfl | rfl | rfl | rfl <;> rfl) (by have := HN.out.lwm; unfold maxLen; omega) (by have := HN.out.lwm; omega) (by have := lt_heap hTb.out.t.q; simp; omega) ?_; intro v3 w3 ho3 hg3 _; obtain ⟨a3, c3, rfl⟩ := row_shape ho3; have hn := hTb.out.next HLw.out ⟨s, q, st, a', m, c'⟩ a3 c3 hg3 ho3 HE.out (by rw [← HBJ.out]; exact hrowb.out); have hgr := (hTb.out.grow hg3 HLw.out).1; have ho44 := hgr.cq 44 (Pk.c44 _); have hf44 := hgr.fq 44; obtain ⟨Wd, hWd⟩ : ∃ X, w3.setCell ⟨w.heap.size + 1 + 1, 44, none⟩ (.slice a3 (j + 1) c3) = X := ⟨_, rfl⟩; have HTd : Hid (TS w Wd P Q7 LL ds bb (j + 1) a3 c3 (es ++ [⟨s, q, st, a', m, c'⟩])) := (by rw [← hWd]; exact hn); clear hn hgr ho3 hg3)
        | (go_at_call 12; refine (copied_any xa m xc bj _ (by exact RB.out.below (balloc (Below.refl _ _))) (by omega)).mono ?_; rintro e w2 ⟨v', rfl, ho, hb⟩; obtain ⟨a', c', rfl, hrow⟩ := own_shape RB.out.1 ho (by simp : wr.heap.size + 1 ≤ (wr.alloc (.cells #[.int .i64 s, .int .i64 q, .int .i64 st, .slice xa m xc] 24)).heap.size); have hd : w2.heap[wr.heap.size]? = some (.cells #[.int .i64 s, .int .i64 q, .int .i64 st, .slice xa m xc] 24 (0, 0)) := (hb.block _ (by simp)).trans (heap_alloc_new wr _); have hdc := (fun i => blk_cell hd i); have hdf := frozen_of_row w2 wr.heap.size 3 _ 24 hd; obtain ⟨Wb, hWb⟩ : ∃ X, w2.setCell ⟨wr.heap.size, 3, none⟩ (.slice a' m c') = X := ⟨_, rfl⟩; have hbb : Below wr.heap.size wr Wb := (by rw [← hWb]; exact bset (bstepA (Below.refl _ _) hb) (Nat.le_refl _) 3 _); have hTb : Hid (TS w Wb P Q7 LL ds bb j aj cj es) := HTS.out.still hbb; have hd2 : Wb.heap[wr.heap.size]? = some (.cells #[.int .i64 s, .int .i64 q, .int .i64 st, .slice a' m c'] 24 (0, 0)) := (by rw [← hWb]; exact heap_setCell_same w2 wr.heap.size 3 _ 24 _ hd); have hdc2 := (fun i => blk_cell hd2 i); have hq44 := hTb.out.t.cq 44 (Pk.c44 _); have hrowb : Hid (Wb.ownsRow (w.heap.size + 1 + 1 + 1) 5 1 (.slice a' m c') m (bj.map (Value.int .u8))) := (by rw [← hWb]; exact own_setKM hrow (by omega) (by have := lt_heap HTS.out.t.q; omega)); have HLw : Hid (w.heap.size ≤ Wb.heap.size) := hTb.out.t.l.size; clear ho hb hrow hd hbb hd2)
        | fail)
      go_roundw
      case rel => exact ⟨j + 1, a3, c3, _, by omega, by go_num, HTd⟩
      case measure => simp [intOf]; omega
    · obtain ⟨Qf, hQf⟩ : ∃ Q : Pk, Q = { Q7 with wmA := aj, wmN := j, wmC := cj } := ⟨_, rfl⟩
      have HBl : Hid (Bl w wr (w.heap.size + 1 + 1) Qf.cs) := ⟨by rw [hQf]; exact HTS.out.t.q, HTS.out.t.l, by omega⟩
      go_wp2_with (first
        | (refine load_pk (.tmp 3) HBl.out rfl rfl rfl ?_)
        | (refine wpList_store_row rfl 72 (.tmp 2) (.tmp 76) rfl (w.heap.size + 1) Qf.cs rfl rfl 72 Pk.zero.cs HTS.out.t.r info_pk rfl (pk_one _) ?_)
        | fail)
      subst hQ1 hQ2 hQ3 hQ4 hQ5 hQ6 hQ7 hLL
      have hE := twin_end HTS.out (by omega) HP.out HN.out D1.out HBD.out Qf hQf
      exact bodyPost_ret (results_pk _ _ Qf (w.heap.size + 1) rfl hE.1) rfl ⟨Qf, es, rfl, hE.2⟩

end Go.Proofs.Ytbjpbcanmpimnab.Lo
