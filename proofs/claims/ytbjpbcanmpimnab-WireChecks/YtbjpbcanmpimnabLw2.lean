import Derived.Test.YtbjpbcanmpimnabLw1
import Derived.Deep.RegionHeld3
namespace Go.Proofs.Ytbjpbcanmpimnab.Lo
open Go.RowKit Bk
set_option linter.unusedVariables false
set_option linter.unusedSimpArgs false

theorem num_any5 (v : Int) (w : World) : Calls Try.prog 9 #[.int .i64 v] w fun e w' => e = .returned (.int .i64 v) ∧ w = w' := by
  go_enter Try.func9, Try.ntmps9
  go_wp2
  go_ret
  exact ⟨rfl, rfl⟩

theorem store_new {ops : Array Oper} {rest : List Oper} {o : Oper} {a : Act} {Q : Exit → Act → World → Prop} {w : World} {P : Pk} (hgd : o.guard = none) (x y : Operand) (ho : o.op = .store 72 x y) (hx : a.eval x = .pointer (some ⟨w.heap.size, 0, none⟩)) (hy : a.eval y = .agg P.cs)
    (h : wpList Try.prog ops Q rest (a.put o.dst undef) (w.alloc (.cells P.cs 72))) : wpList Try.prog ops Q (o :: rest) a (w.alloc (.cells Pk.zero.cs 72)) := by
  refine wpList_store_row hgd 72 x y ho _ P.cs hx hy 72 Pk.zero.cs (heap_alloc_new _ _) info_pk rfl (pk_one P) ?_
  rw [World.setRow_alloc_new]
  exact h

structure Pq (w W : World) (P Q : Pk) (k : Nat) : Prop where
  p : W.heap[w.heap.size]? = some (.cells P.cs 72 (0, 0))
  q : W.heap[k]? = some (.cells Q.cs 72 (0, 0))
  l : Below w.heap.size w W
  g : w.heap.size ≤ k
theorem Pq.still {w W W' : World} {P Q : Pk} {k : Nat} (h : Pq w W P Q k) (hb : Below W.heap.size W W') : Pq w W' P Q k :=
  ⟨(hb.block _ (lt_heap h.p)).trans h.p, (hb.block _ (lt_heap h.q)).trans h.q, bstep h.l hb, h.g⟩
theorem Pq.blp {w W : World} {P Q : Pk} {k : Nat} (h : Pq w W P Q k) : Bl w W w.heap.size P.cs := ⟨h.p, h.l, Nat.le_refl _⟩
theorem Pq.blq {w W : World} {P Q : Pk} {k : Nat} (h : Pq w W P Q k) : Bl w W k Q.cs := ⟨h.q, h.l, h.g⟩

theorem yields_pk {ops : Array Oper} {w : World} {P Q R : Pk} {k b : Nat} {o : Oper} {a : Act} (x : Operand) (ho : o.op = .load 72 x) (hx : a.eval x = .pointer (some ⟨b, 0, none⟩)) (hS : ∀ w', Pq w w' P Q k → w'.heap[b]? = some (.cells R.cs 72 (0, 0))) (hw : Region.wanted o (yielded ops a.tmps) = true) : YieldsIf Try.prog ops (fun w' => Pq w w' P Q k) o (.agg R.cs) a :=
  .inl ⟨hw, fun w' h' => by
    unfold execOp
    simp only [ho, hx, Instr.loadAt, Instr.sureAddr, Sem.run_bind, Sem.run_pure, Result.andThen_ok, run_loadVar_row w' b 72 72 R.cs (0, 0) _ (hS w' h') Try.underlying72 rfl info_pk]⟩

set_option maxRecDepth 100000 in
set_option maxHeartbeats 4000000 in
theorem core5 (P : Pk) (xs ss vs hs bs : List Int) (sl : List (Int × Int)) (ds : List Dt) (bb : List (List Int)) (w : World) (hp : Pw w P xs ss vs hs sl ds) (hn : Pn P) (d1 : Rd w P.tbA P.tbN P.tbC bs) (hbd : ∀ i, i < P.wmN → Rd w (ds.getD i dt0).a (ds.getD i dt0).n (ds.getD i dt0).c (bb.getD i []) ∧ (ds.getD i dt0).n ≤ 140737488351232) :
    Calls Try.prog 5 #[.agg P.cs] w fun e w' => e = .returned (.bool true) ∧ Below w.heap.size w w' := by
  have HP : Hid (Pw w P xs ss vs hs sl ds) := hp
  have HN : Hid (Pn P) := hn
  have D1 : Hid (Rd w P.tbA P.tbN P.tbC bs) := d1
  have HBD : Hid (∀ i, i < P.wmN → Rd w (ds.getD i dt0).a (ds.getD i dt0).n (ds.getD i dt0).c (bb.getD i []) ∧ (ds.getD i dt0).n ≤ 140737488351232) := hbd
  obtain ⟨g, hg⟩ : ∃ g, goodB P xs ss vs hs sl ds = g := ⟨_, rfl⟩
  have HG : Hid (goodB P xs ss vs hs sl ds = g) := hg
  clear hp hn d1 hbd hg
  have B0 : Hid (Bl w (w.alloc (.cells P.cs 72)) w.heap.size P.cs) := Bl.new w _
  generalize hE : cond g (0 : Int) 16 = E
  have HEE : Hid (cond g (0 : Int) 16 = E) := hE
  clear hE
  go_enter Try.func5, Try.ntmps5
  go_wp2_with (first
    | (refine load_pk (.tmp 1) B0.out rfl rfl rfl ?_)
    | (go_at_call 21; refine (twin_any P xs ss vs hs bs sl ds bb _ (HP.out.below B0.out.b) HN.out (D1.out.below B0.out.b) (fun i hi => ⟨(HBD.out i hi).1.below B0.out.b, (HBD.out i hi).2⟩)).mono ?_; rintro e w1 ⟨Q, es, rfl, hm, hpq, hd2, hsm, hb1⟩; have HM : Hid (Mate P Q) := hm; have HQ : Hid (Pw w1 Q xs ss vs hs sl es) := hpq; have D2 : Hid (Rd w1 Q.tbA Q.tbN Q.tbC bs) := hd2; have HSM : Hid (Sam w1 P.wmN ds es bb) := hsm; have B1 : Hid (Bl w w1 w.heap.size P.cs) := B0.out.still hb1; clear hm hpq hd2 hsm hb1 B0)
    | (have hB := B1; refine store_new rfl (.tmp 3) (.tmp 6) rfl rfl rfl ?_; have P1 : Hid (Pq w (w1.alloc (.cells Q.cs 72)) P Q w1.heap.size) := Pq.mk (blk_alloc B1.out.c) (heap_alloc_new _ _) (balloc B1.out.b) B1.out.b.size; have L1 : Hid (Below w1.heap.size w1 (w1.alloc (.cells Q.cs 72))) := balloc (Below.refl _ _); clear hB B1)
    | (refine load_pk (.tmp 3) P1.out.blq rfl rfl rfl ?_)
    | (go_at_call 22; refine (check_eq Q xs ss vs hs sl es g _ (HQ.out.below L1.out) ((goodB_mate HM.out HSM.out).trans HG.out)).mono ?_; rintro e w2 ⟨rfl, hb⟩; rw [HEE.out]; have P2 : Hid (Pq w w2 P Q w1.heap.size) := P1.out.still hb; have L2 : Hid (Below w1.heap.size w1 w2) := bstep L1.out hb; clear hb P1 L1)
    | fail)
  refine wp_region_held_drew (S := fun w' => Pq w w' P Q w1.heap.size) (by kernel_rfl) (P2.out.still (Below.refl _ _).drew) (fun hHeld => ?_)
  simp only [Act.put, List.size_toArray, List.length_cons, List.length_nil, Nat.zero_add]
  refine wpAnyH_take (i := 0) (v := .int .i64 E) rfl (by kernel_rfl) (by kernel_rfl) (by kernel_rfl) (fun _ _ _ h => h) (Or.inl ⟨by rfl, fun w _ => by go_simp⟩) hHeld ?_
  simp only [Act.put, List.getElem_toArray, List.getElem_cons_zero, List.getElem_cons_succ, List.setIfInBounds_toArray, List.set_cons_zero, List.set_cons_succ]
  refine wpAnyH_take (i := 2) (v := .agg P.cs) rfl (by kernel_rfl) (by kernel_rfl) (by kernel_rfl) (fun _ _ _ h => h) (yields_pk (.tmp 1) rfl rfl (fun w' h => h.p) rfl) hHeld ?_
  simp only [Act.put, List.getElem_toArray, List.getElem_cons_zero, List.getElem_cons_succ, List.setIfInBounds_toArray, List.set_cons_zero, List.set_cons_succ]
  refine wpAnyH_ready (rs := [1]) (by kernel_rfl) (by simp) ?_
  refine AllReadyH.cons rfl (fun K hK => ?_) AllReadyH.nil
  go_simp
  refine (num_any5 _ _).mono ?_
  rintro e w' ⟨rfl, rfl⟩
  refine hK.out _ _ hHeld (fun hHeld => ?_)
  clear hK K
  refine wpAnyH_ready (rs := [3]) (by kernel_rfl) (by simp) ?_
  refine AllReadyH.cons rfl (fun K hK => ?_) AllReadyH.nil
  go_simp
  refine (rcheck_any P xs ss vs hs sl ds g _ (HP.out.below hHeld.l) HG.out).mono ?_
  rintro e w3 ⟨rfl, hb⟩
  rw [HEE.out]
  have L3 : Hid (Below w1.heap.size w1 w3) := bstep L2.out (bstep (Below.refl _ _).drew hb)
  refine hK.out _ _ (hHeld.still hb) (fun hHeld => ?_)
  clear hK K hb
  refine wpAnyH_take (i := 4) (v := .bool true) rfl (by kernel_rfl) (by kernel_rfl) (by kernel_rfl) (fun _ _ _ h => h) (Or.inl ⟨by rfl, fun w _ => by go_simp⟩) hHeld ?_
  simp only [Act.put, List.getElem_toArray, List.getElem_cons_zero, List.getElem_cons_succ, List.setIfInBounds_toArray, List.set_cons_zero, List.set_cons_succ]
  refine wpAnyH_take (i := 5) (v := .bool true) rfl (by kernel_rfl) (by kernel_rfl) (by kernel_rfl) (fun _ _ _ h => h) (Or.inl ⟨by rfl, fun w _ => by go_simp⟩) hHeld ?_
  simp only [Act.put, List.getElem_toArray, List.getElem_cons_zero, List.getElem_cons_succ, List.setIfInBounds_toArray, List.set_cons_zero, List.set_cons_succ]
  refine wpAnyH_take (i := 6) (v := .agg P.cs) rfl (by kernel_rfl) (by kernel_rfl) (by kernel_rfl) (fun _ _ _ h => h) (yields_pk (.tmp 1) rfl rfl (fun w' h => h.p) rfl) hHeld ?_
  simp only [Act.put, List.getElem_toArray, List.getElem_cons_zero, List.getElem_cons_succ, List.setIfInBounds_toArray, List.set_cons_zero, List.set_cons_succ]
  refine wpAnyH_take (i := 7) (v := .agg Q.cs) rfl (by kernel_rfl) (by kernel_rfl) (by kernel_rfl) (fun _ _ _ h => h) (yields_pk (.tmp 3) rfl rfl (fun w' h => h.q) rfl) hHeld ?_
  simp only [Act.put, List.getElem_toArray, List.getElem_cons_zero, List.getElem_cons_succ, List.setIfInBounds_toArray, List.set_cons_zero, List.set_cons_succ]
  refine wpAnyH_ready (rs := [8]) (by kernel_rfl) (by simp) ?_
  refine AllReadyH.cons rfl (fun K hK => ?_) AllReadyH.nil
  go_simp
  refine (samePacket_any P Q xs ss vs hs bs sl ds es bb _ HM.out (HP.out.below hHeld.l) (HQ.out.below L3.out) (D1.out.below hHeld.l) (D2.out.below L3.out) (by have := HN.out.ltb; omega) (HSM.out.below L3.out)).mono ?_
  rintro e w4 ⟨rfl, hb⟩
  refine hK.out _ _ (hHeld.still hb) (fun hHeld => ?_)
  clear hK K hb
  refine wpAnyH_take (i := 9) (v := .bool true) rfl (by kernel_rfl) (by kernel_rfl) (by kernel_rfl) (fun _ _ _ h => h) (Or.inl ⟨by rfl, fun w _ => by go_simp⟩) hHeld ?_
  simp only [Act.put, List.getElem_toArray, List.getElem_cons_zero, List.getElem_cons_succ, List.setIfInBounds_toArray, List.set_cons_zero, List.set_cons_succ]
  refine wpAnyH_take (i := 10) (v := .bool true) rfl (by kernel_rfl) (by kernel_rfl) (by kernel_rfl) (fun _ _ _ h => h) (Or.inl ⟨by rfl, fun w _ => by go_simp⟩) hHeld ?_
  simp only [Act.put, List.getElem_toArray, List.getElem_cons_zero, List.getElem_cons_succ, List.setIfInBounds_toArray, List.set_cons_zero, List.set_cons_succ]
  refine wpAnyH_done (by kernel_rfl) ?_ _
  go_wp2_with fail
  go_ret
  exact ⟨rfl, hHeld.l⟩

end Go.Proofs.Ytbjpbcanmpimnab.Lo
