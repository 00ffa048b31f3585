import Derived.Test.YtnmnobcikmiojaaPv
import Derived.ChangeKeysEq
namespace Go.Proofs.Ytnmnobcikmiojaa.Qm
open Go.RowKit Mb
set_option linter.unusedVariables false
set_option maxRecDepth 100000
set_option linter.unusedSimpArgs false
section
variable {w w' : World} {B : Nat}
theorem part_i (xs : List Int) (i : Nat) (h : i < xs.length) : (part 3 (ints xs).toArray i).run Try.prog w = .ok (.int .i64 (xs.getD i 0)) w := by
  have hagg : (isAgg 3).run Try.prog w = .ok false w := by
    unfold isAgg
    rw [Sem.run_bind, run_underlying Try.underlying3 w]
    rfl
  unfold part
  simp only [Sem.run_bind, hagg, Result.andThen_ok, Bool.false_eq_true, if_false, List.getElem?_toArray, ints_at xs i h]
  rfl
def eqF (d : Nat) (xs ys : Array Value) : List (String × TypeId × Nat) → Sem Bool
  | [] => pure true
  | (n, t, o) :: fs =>
    if n ≠ "_" then do
      let a ← part t xs o
      let b ← part t ys o
      let r ← Op.equalIn d t a b
      if (!r) = true then pure false else eqF d xs ys fs
    else eqF d xs ys fs
theorem eqF_eq (d : Nat) (xs ys : Array Value) : ∀ fs : List Field, Op.eqFields d xs ys fs = eqF d xs ys (fs.map fun f => (f.name, f.type, f.offset))
  | [] => rfl
  | f :: fs => by simp only [Op.eqFields, List.map_cons, eqF, eqF_eq d xs ys fs]
theorem run_neqop {o : Oper} {ρ : Operand → Value} {w : World} (t : TypeId) (x y : Operand) (t' : TypeId) (ho : o.op = .binOp .neq t x y t') (xs ys : Array Value) (hx : ρ x = .agg xs) (hy : ρ y = .agg ys) (hg : Try.prog.eqGuardType Try.prog.depth t = false) (r : Bool) (h : (Op.equalIn 10000 t (.agg xs) (.agg ys)).run Try.prog w = .ok r w) : (execOp ρ o).run Try.prog w = .ok (.value (.bool (!r))) w := by
  unfold execOp
  simp only [ho, hx, hy, Sem.run_bind, run_eqGuard_agg w .neq t x y xs ys hg, run_neq_struct, h, Result.andThen_ok, Sem.run_pure]
theorem run_eqlop {o : Oper} {ρ : Operand → Value} {w : World} (t : TypeId) (x y : Operand) (t' : TypeId) (ho : o.op = .binOp .eql t x y t') (xs ys : Array Value) (hx : ρ x = .agg xs) (hy : ρ y = .agg ys) (hg : Try.prog.eqGuardType Try.prog.depth t = false) (r : Bool) (h : (Op.equalIn 10000 t (.agg xs) (.agg ys)).run Try.prog w = .ok r w) : (execOp ρ o).run Try.prog w = .ok (.value (.bool r)) w := by
  unfold execOp
  simp only [ho, hx, hy, Sem.run_bind, run_eqGuard_agg w .eql t x y xs ys hg, run_eql_struct, h, Result.andThen_ok, Sem.run_pure]
theorem fields_vid : (Try.prog.fieldsOf 59).toList.map (fun f => (f.name, f.type, f.offset)) = [("Epoch", 3, 0), ("Lead", 3, 1), ("Inc", 3, 2), ("Cid", 3, 3)] := by kernel_rfl
theorem under_vid : Try.prog.underlying 59 = some (.struct (Try.prog.fieldsOf 59)) := by
  unfold Program.fieldsOf
  rw [Try.underlying59]
theorem stood_vid : Try.prog.stoodInHeld 59 = false := by kernel_rfl
theorem guard_vid : Try.prog.eqGuardType Try.prog.depth 59 = false := by kernel_rfl
theorem eq_vid (d : Nat) (xs ys : List Int) (hx : xs.length = 4) (hy : ys.length = 4) : (Op.equalIn (d + 2) 59 (.agg (ints xs).toArray) (.agg (ints ys).toArray)).run Try.prog w = .ok (decide (xs = ys)) w := by
  rw [run_equalIn_struct w (d + 1) 59 _ _ under_vid stood_vid, eqF_eq, fields_vid]
  simp only [eqF, ne_eq, reduceCtorEq, String.reduceEq, not_false_eq_true, if_true, Sem.run_bind, Sem.run_ite, Sem.run_pure, part_i xs 0 (by omega), part_i ys 0 (by omega), part_i xs 1 (by omega), part_i ys 1 (by omega), part_i xs 2 (by omega), part_i ys 2 (by omega), part_i xs 3 (by omega), part_i ys 3 (by omega), Result.andThen_ok, run_equalIn_int w d 3 .i64 .i64 _ _ Try.underlying3]
  have e : decide (xs = ys) = (xs.getD 0 0 == ys.getD 0 0 && xs.getD 1 0 == ys.getD 1 0 && xs.getD 2 0 == ys.getD 2 0 && xs.getD 3 0 == ys.getD 3 0) := by
    match xs, ys, hx, hy with
    | [a, b, c, d], [e, f, g, h], _, _ =>
      rw [Bool.eq_iff_iff]
      simp [and_assoc]
  rw [e]
  cases xs.getD 0 0 == ys.getD 0 0 <;> cases xs.getD 1 0 == ys.getD 1 0 <;> cases xs.getD 2 0 == ys.getD 2 0 <;> cases xs.getD 3 0 == ys.getD 3 0 <;> rfl
theorem info_vid : (Try.prog.info? 59).map (·.size) = some 4 := by kernel_rfl
theorem info_mb : (Try.prog.info? 65).map (·.size) = some 3 := by kernel_rfl
theorem newm (w1 : World) (x : St) : ∃ A1 V, w1.alloc (.cells #[.int .i64 0, .int .i64 0, .int .i64 0] 65) = A1 ∧ Hid (A1.there w1.heap.size 0 x.li.length) ∧ A1.setCells w1.heap.size 0 (ints x.li) = V ∧ Hid (Rw V w1.heap.size 65 x.li) ∧ Hid (Below w1.heap.size w1 V) := by
  obtain ⟨A1, hA⟩ : ∃ A1, w1.alloc (.cells #[.int .i64 0, .int .i64 0, .int .i64 0] 65) = A1 := ⟨_, rfl⟩
  have k1 : Rw A1 w1.heap.size 65 [0, 0, 0] := by unfold Rw; rw [← hA]; exact heap_alloc_new w1 _
  refine ⟨A1, _, hA, k1.there 0 _ (by show 0 + 3 ≤ 3; omega), rfl, Rw.whole k1 rfl, bsets (Nat.le_refl _) _ _ ?_⟩
  rw [← hA]
  exact balloc (Below.refl _ _)
def cntB (x : Int) : Bool := decide (1 ≤ x ∧ x ≤ 4611686018427387904)
theorem isCount_any (x : Int) : Calls Try.prog 63 #[.int .i64 x] w fun e w' => e = .returned (.bool (cntB x)) ∧ w = w' := by
  go_enter Try.func63, Try.ntmps63
  go_wp2_with (first
    | (go_at_call 48; refine (within_any _ _ _).mono ?_; rintro e w' ⟨rfl, rfl⟩)
    | fail)
  go_ret
  exact ⟨by unfold cntB; simp, rfl⟩
def memP (n : Nat) : Nat → List St → Option Nat
  | s, [] => some s
  | s, x :: r => if okP n s x.p && (cntB x.e && cntB x.l) then memP n (s ||| 2 ^ x.p.toNat) r else none
structure Vw where
  ep : Int
  ld : Int
  ic : Int
  cd : Int
  ms : List St
def Vw.id (v : Vw) : List Int := [v.ep, v.ld, v.ic, v.cd]
def viewP (n : Nat) (v : Vw) : Option Nat := match memP n 0 v.ms with
  | none => none
  | some s => if v.ms.length = 0 then none else if cntB v.ep then (if v.id = [v.ep, (v.ms.getD 0 z3).p, (v.ms.getD 0 z3).e, (v.ms.getD 0 z3).l] then some s else none) else none
theorem memP_lt (n : Nat) (hn : n ≤ 16) : ∀ (xs : List St) (s t : Nat), s < 2 ^ n → memP n s xs = some t → t < 2 ^ n
  | [], s, t, hs, h => by simp only [memP, Option.some.injEq] at h; omega
  | x :: r, s, t, hs, h => by
      simp only [memP] at h
      split at h
      · rename_i hp
        simp only [Bool.and_eq_true] at hp
        have hp := of_decide_eq_true hp.1
        refine memP_lt n hn r _ t ?_ h
        exact Nat.or_lt_two_pow hs (Nat.pow_lt_pow_right (by decide) (by omega))
      · cases h
set_option maxHeartbeats 8000000 in
theorem members_any {v : Vw} {mo : Option Addr} {mn mc : Nat} (hr : Rd3 w mo mn mc v.ms) (hm : mn ≤ 17592186044416) (n : Nat) (hn : n ≤ 16) : Calls Try.prog 47 #[.agg #[.int .i64 v.ep, .int .i64 v.ld, .int .i64 v.ic, .int .i64 v.cd, .slice mo mn mc], .int .i64 (n : Int)] w fun e w' => ∃ (r : Nat) (ok : Bool), e = .returned (.tuple #[.int .u64 (r : Int), .bool ok]) ∧ ((ok = true ∧ viewP n v = some r) ∨ (ok = false ∧ viewP n v = none)) ∧ Below w.heap.size w w' := by
  generalize hW : w.alloc (.cells #[.int .i64 v.ep, .int .i64 v.ld, .int .i64 v.ic, .int .i64 v.cd, .slice mo mn mc] 62) = W
  have hbW : Below w.heap.size w W := by rw [← hW]; exact balloc (Below.refl _ w)
  have hblk : W.heap[w.heap.size]? = some (.cells #[.int .i64 v.ep, .int .i64 v.ld, .int .i64 v.ic, .int .i64 v.cd, .slice mo mn mc] 62 (0, 0)) := by rw [← hW]; exact heap_alloc_new w _
  have q0 : W.cell? ⟨w.heap.size, 0, none⟩ = some (.int .i64 v.ep) := blk_cell hblk 0
  have q4 : W.cell? ⟨w.heap.size, 4, none⟩ = some (.slice mo mn mc) := blk_cell hblk 4
  have HQr : Hid (W.rangeAt w.heap.size 0 (ints [v.ep, v.ld, v.ic, v.cd])) := fun j u hu => by
    rw [blk_cell hblk, Nat.zero_add]
    match j, hu with
    | 0, hu => exact hu
    | 1, hu => exact hu
    | 2, hu => exact hu
    | 3, hu => exact hu
    | j + 4, hu => simp [ints] at hu
  have HR : Hid (Rd3 W mo mn mc v.ms) := hr.still hbW
  have Hl : Hid (v.ms.length = mn) := hr.len
  have HBW : Hid (Below w.heap.size w W) := hbW
  have HVP : Hid (viewP n v = (match memP n 0 v.ms with | none => none | some s => if v.ms.length = 0 then none else if cntB v.ep then (if [v.ep, v.ld, v.ic, v.cd] = [v.ep, (v.ms.getD 0 z3).p, (v.ms.getD 0 z3).e, (v.ms.getD 0 z3).l] then some s else none) else none)) := rfl
  obtain ⟨vp, hvp⟩ : ∃ vp, vp = viewP n v := ⟨_, rfl⟩
  rw [← hvp]
  rw [← hvp] at HVP
  generalize v.ms = ms at *
  generalize v.ep = ep at *
  generalize v.ld = ld at *
  generalize v.ic = ic at *
  generalize v.cd = cd at *
  clear hr hblk hbW hvp
  go_enter Try.func47, Try.ntmps47
  go_wp2
  go_loopw [6, 13] (fun y i wr => ∃ (k s : Nat), k ≤ mn ∧ i = .int .i64 (k : Int) ∧ y = .int .u64 (s : Int) ∧ s < 65536 ∧ Hid (memP n s (ms.drop k) = memP n 0 ms) ∧ Hid (Below W.heap.size W wr)) (fun _ i _ => mn - (intOf i).toNat)
  case atStart => exact ⟨0, 0, Nat.zero_le _, rfl, rfl, by decide, rfl, Below.refl _ _⟩
  case round =>
    obtain ⟨k, s, hk, rfl, rfl, hs, HT, HB⟩ := hrel
    replace q0 := below_at HB.out q0
    replace q4 := below_at HB.out q4
    by_cases hlt : k < mn
    · obtain ⟨g, o, hg, hc⟩ := (HR.out.still HB.out).at hlt
      have hd : ms.drop k = ms.getD k z3 :: ms.drop (k + 1) := by
        have hkx : k < ms.length := by have := Hl.out; omega
        rw [List.drop_eq_getElem_cons hkx]
        simp [List.getD, hkx]
      have HT2 : memP n s (ms.getD k z3 :: ms.drop (k + 1)) = memP n 0 ms := by rw [← hd]; exact HT.out
      simp only [memP] at HT2
      have i1 : (0 : Int) ≤ (k : Int) := Int.natCast_nonneg _
      have i2 : (k : Int) < (mn : Int) := by omega
      rw [hg]
      generalize ms.getD k z3 = x at *
      have HG : Hid (wr.rangeAt g (o + k * 3) (ints x.li)) := hc
      obtain ⟨A1, V, hA1, HA1, hV, HV, HBV⟩ := newm wr x
      have HBB : Hid (Below w.heap.size w V) := bstep (bstep HBW.out HB.out) HBV.out
      have HBC : Hid (Below W.heap.size W V) := bstep HB.out HBV.out
      have m0 : V.cell? ⟨wr.heap.size, 0, none⟩ = some (.int .i64 x.p) := HV.out.cell (i := 0) (by rw [St.li_len]; decide)
      have m1 : V.cell? ⟨wr.heap.size, 1, none⟩ = some (.int .i64 x.e) := HV.out.cell (i := 1) (by rw [St.li_len]; decide)
      have m2 : V.cell? ⟨wr.heap.size, 2, none⟩ = some (.int .i64 x.l) := HV.out.cell (i := 2) (by rw [St.li_len]; decide)
      have HE : Hid (∀ w, Calls Try.prog 51 #[.int .u64 (s : Int)] w fun e w' => e = .returned (.int .i64 (Lib.bitLen s)) ∧ w = w') := fun w => end_any s hs
      have HW0 : ∀ w, Calls Try.prog 48 #[.int .i64 x.p, .int .i64 (Lib.bitLen s : Int), .int .i64 ((n : Int) - 1)] w fun e w' => e = .returned (.bool (okP n s x.p)) ∧ w = w' := fun w => within_any _ _ _
      have HC10 := fun w => isCount_any (w := w) x.e
      have HC20 := fun w => isCount_any (w := w) x.l
      have hok : okP n s x.p = true → (Lib.bitLen s : Int) ≤ x.p ∧ x.p ≤ (n : Int) - 1 := fun h => of_decide_eq_true h
      generalize Lib.bitLen s = bl at *
      clear hg hd hc HT HBV
      cases h1 : okP n s x.p with
      | false =>
        rw [h1] at HW0 HT2
        have HW : Hid (∀ w, Calls Try.prog 48 #[.int .i64 x.p, .int .i64 (bl : Int), .int .i64 ((n : Int) - 1)] w fun e w' => e = .returned (.bool false) ∧ w = w') := HW0
        have HF : Hid (vp = none) := (show _ = _ from by rw [HVP.out, ← HT2]; rfl)
        clear HT2 HW0 HC10 HC20 hok h1
        go_wp2_with (first
          | (refine load_mid 65 (.tmp 15) HG.out _ Try.underlying65 rfl (by rw [ints_len]; exact info_mb) rfl rfl rfl ?_)
          | (refine store_mid 65 (.tmp 8) (.tmp 16) (xs := x.li) HA1.out info_mb rfl rfl rfl rfl ?_; rw [hV]; clear hV hA1 HA1 HV; generalize wr.heap.size = gm at *)
          | fail)
        refine wp_region_held_drew (S := (fun w' => w'.cell? ⟨gm, 0, none⟩ = some (.int .i64 x.p) ∧ w'.cell? ⟨gm, 1, none⟩ = some (.int .i64 x.e) ∧ w'.cell? ⟨gm, 2, none⟩ = some (.int .i64 x.l))) (by kernel_rfl) ⟨below_at (Below.refl _ _).drew m0, below_at (Below.refl _ _).drew m1, below_at (Below.refl _ _).drew m2⟩ (fun hHeld => ?_)
        simp only [Act.put, List.size_toArray, List.length_cons, List.length_nil, Nat.zero_add]
        refine wpAnyH_take (i := 0) (v := .pointer (some ⟨gm, 0, none⟩)) rfl (by kernel_rfl) (by kernel_rfl) (by kernel_rfl) (fun _ _ _ h => h) (Or.inl ⟨by rfl, fun w' hS => by go_simp⟩) hHeld ?_
        simp only [Act.put, List.getElem_toArray, List.getElem_cons_zero, List.getElem_cons_succ, List.setIfInBounds_toArray, List.set_cons_zero, List.set_cons_succ]
        refine wpAnyH_take (i := 1) (v := .int .i64 x.p) rfl (by kernel_rfl) (by kernel_rfl) (by kernel_rfl) (fun _ _ _ h => h) (Or.inl ⟨by rfl, fun w' hS => by (obtain ⟨s0, s1, s2⟩ := hS; go_simp)⟩) hHeld ?_
        simp only [Act.put, List.getElem_toArray, List.getElem_cons_zero, List.getElem_cons_succ, List.setIfInBounds_toArray, List.set_cons_zero, List.set_cons_succ]
        refine wpAnyH_take (i := 2) (v := .int .u64 (s : Int)) rfl (by kernel_rfl) (by kernel_rfl) (by kernel_rfl) (fun _ _ _ h => h) (Or.inl ⟨by rfl, fun w' hS => by go_simp⟩) hHeld ?_
        simp only [Act.put, List.getElem_toArray, List.getElem_cons_zero, List.getElem_cons_succ, List.setIfInBounds_toArray, List.set_cons_zero, List.set_cons_succ]
        refine wpAnyH_take (i := 4) (v := .int .i64 (n : Int)) rfl (by kernel_rfl) (by kernel_rfl) (by kernel_rfl) (fun _ _ _ h => h) (Or.inl ⟨by rfl, fun w' hS => by go_simp⟩) hHeld ?_
        simp only [Act.put, List.getElem_toArray, List.getElem_cons_zero, List.getElem_cons_succ, List.setIfInBounds_toArray, List.set_cons_zero, List.set_cons_succ]
        refine wpAnyH_take (i := 5) (v := .int .i64 ((n : Int) - 1)) rfl (by kernel_rfl) (by kernel_rfl) (by kernel_rfl) (fun _ _ _ h => h) (Or.inl ⟨by rfl, fun w' hS => by (go_simp; exact wrap_id (by omega) (by omega))⟩) hHeld ?_
        simp only [Act.put, List.getElem_toArray, List.getElem_cons_zero, List.getElem_cons_succ, List.setIfInBounds_toArray, List.set_cons_zero, List.set_cons_succ]
        refine wpAnyH_ready (rs := [3]) (by kernel_rfl) (by simp) ?_
        refine AllReadyH.cons rfl (fun K hK => ?_) AllReadyH.nil
        go_simp
        refine (HE.out _).mono ?_
        rintro e w2 ⟨rfl, rfl⟩
        refine hK.out _ _ ⟨below_at (Below.refl _ _).drew m0, below_at (Below.refl _ _).drew m1, below_at (Below.refl _ _).drew m2⟩ (fun hHeld => ?_)
        clear hK K
        refine wpAnyH_ready (rs := [6]) (by kernel_rfl) (by simp) ?_
        refine AllReadyH.cons rfl (fun K hK => ?_) AllReadyH.nil
        go_simp
        refine (HW.out _).mono ?_
        rintro e w2 ⟨rfl, rfl⟩
        refine hK.out _ _ ⟨below_at (Below.refl _ _).drew m0, below_at (Below.refl _ _).drew m1, below_at (Below.refl _ _).drew m2⟩ (fun hHeld => ?_)
        clear hK K
        refine wpAnyH_take (i := 7) (v := .bool true) rfl (by kernel_rfl) (by kernel_rfl) (by kernel_rfl) (fun _ _ _ h => h) (Or.inl ⟨by rfl, fun w' hS => by go_simp⟩) hHeld ?_
        simp only [Act.put, List.getElem_toArray, List.getElem_cons_zero, List.getElem_cons_succ, List.setIfInBounds_toArray, List.set_cons_zero, List.set_cons_succ]
        refine wpAnyH_take (i := 8) (v := .bool true) rfl (by kernel_rfl) (by kernel_rfl) (by kernel_rfl) (fun _ _ _ h => h) (Or.inl ⟨by rfl, fun w' hS => by go_simp⟩) hHeld ?_
        simp only [Act.put, List.getElem_toArray, List.getElem_cons_zero, List.getElem_cons_succ, List.setIfInBounds_toArray, List.set_cons_zero, List.set_cons_succ]
        refine wpAnyH_take (i := 9) (v := undef) rfl (by kernel_rfl) (by kernel_rfl) (by kernel_rfl) (fun _ _ _ h => h) (Or.inr ⟨by rfl, rfl⟩) hHeld ?_
        simp only [Act.put, List.getElem_toArray, List.getElem_cons_zero, List.getElem_cons_succ, List.setIfInBounds_toArray, List.set_cons_zero, List.set_cons_succ]
        refine wpAnyH_take (i := 10) (v := undef) rfl (by kernel_rfl) (by kernel_rfl) (by kernel_rfl) (fun _ _ _ h => h) (Or.inr ⟨by rfl, rfl⟩) hHeld ?_
        simp only [Act.put, List.getElem_toArray, List.getElem_cons_zero, List.getElem_cons_succ, List.setIfInBounds_toArray, List.set_cons_zero, List.set_cons_succ]
        refine wpAnyH_take (i := 11) (v := undef) rfl (by kernel_rfl) (by kernel_rfl) (by kernel_rfl) (fun _ _ _ h => h) (Or.inr ⟨by rfl, rfl⟩) hHeld ?_
        simp only [Act.put, List.getElem_toArray, List.getElem_cons_zero, List.getElem_cons_succ, List.setIfInBounds_toArray, List.set_cons_zero, List.set_cons_succ]
        refine wpAnyH_take (i := 12) (v := undef) rfl (by kernel_rfl) (by kernel_rfl) (by kernel_rfl) (fun _ _ _ h => h) (Or.inr ⟨by rfl, rfl⟩) hHeld ?_
        simp only [Act.put, List.getElem_toArray, List.getElem_cons_zero, List.getElem_cons_succ, List.setIfInBounds_toArray, List.set_cons_zero, List.set_cons_succ]
        refine wpAnyH_take (i := 13) (v := .bool true) rfl (by kernel_rfl) (by kernel_rfl) (by kernel_rfl) (fun _ _ _ h => h) (Or.inl ⟨by rfl, fun w' hS => by go_simp⟩) hHeld ?_
        simp only [Act.put, List.getElem_toArray, List.getElem_cons_zero, List.getElem_cons_succ, List.setIfInBounds_toArray, List.set_cons_zero, List.set_cons_succ]
        refine wpAnyH_take (i := 14) (v := .bool true) rfl (by kernel_rfl) (by kernel_rfl) (by kernel_rfl) (fun _ _ _ h => h) (Or.inl ⟨by rfl, fun w' hS => by go_simp⟩) hHeld ?_
        simp only [Act.put, List.getElem_toArray, List.getElem_cons_zero, List.getElem_cons_succ, List.setIfInBounds_toArray, List.set_cons_zero, List.set_cons_succ]
        refine wpAnyH_take (i := 15) (v := undef) rfl (by kernel_rfl) (by kernel_rfl) (by kernel_rfl) (fun _ _ _ h => h) (Or.inr ⟨by rfl, rfl⟩) hHeld ?_
        simp only [Act.put, List.getElem_toArray, List.getElem_cons_zero, List.getElem_cons_succ, List.setIfInBounds_toArray, List.set_cons_zero, List.set_cons_succ]
        refine wpAnyH_take (i := 16) (v := undef) rfl (by kernel_rfl) (by kernel_rfl) (by kernel_rfl) (fun _ _ _ h => h) (Or.inr ⟨by rfl, rfl⟩) hHeld ?_
        simp only [Act.put, List.getElem_toArray, List.getElem_cons_zero, List.getElem_cons_succ, List.setIfInBounds_toArray, List.set_cons_zero, List.set_cons_succ]
        refine wpAnyH_take (i := 17) (v := undef) rfl (by kernel_rfl) (by kernel_rfl) (by kernel_rfl) (fun _ _ _ h => h) (Or.inr ⟨by rfl, rfl⟩) hHeld ?_
        simp only [Act.put, List.getElem_toArray, List.getElem_cons_zero, List.getElem_cons_succ, List.setIfInBounds_toArray, List.set_cons_zero, List.set_cons_succ]
        refine wpAnyH_take (i := 18) (v := undef) rfl (by kernel_rfl) (by kernel_rfl) (by kernel_rfl) (fun _ _ _ h => h) (Or.inr ⟨by rfl, rfl⟩) hHeld ?_
        simp only [Act.put, List.getElem_toArray, List.getElem_cons_zero, List.getElem_cons_succ, List.setIfInBounds_toArray, List.set_cons_zero, List.set_cons_succ]
        refine wpAnyH_take (i := 19) (v := .bool true) rfl (by kernel_rfl) (by kernel_rfl) (by kernel_rfl) (fun _ _ _ h => h) (Or.inl ⟨by rfl, fun w' hS => by go_simp⟩) hHeld ?_
        simp only [Act.put, List.getElem_toArray, List.getElem_cons_zero, List.getElem_cons_succ, List.setIfInBounds_toArray, List.set_cons_zero, List.set_cons_succ]
        refine wpAnyH_done (by kernel_rfl) ?_ _
        clear hHeld
        go_wp2
        (try simp only [Exit.inBlock, Exit.then])
        refine bodyPost_ret (results_tmp2 rfl _ _ _) rfl ?_
        exact ⟨0, false, rfl, .inr ⟨rfl, HF.out⟩, bstep HBB.out (Below.refl _ _).drew⟩
      | true =>
        rw [h1] at HW0 HT2
        have hx2 := hok h1
        have HW : Hid (∀ w, Calls Try.prog 48 #[.int .i64 x.p, .int .i64 (bl : Int), .int .i64 ((n : Int) - 1)] w fun e w' => e = .returned (.bool true) ∧ w = w') := HW0
        cases h2 : cntB x.e with
        | false =>
          rw [h2] at HC10 HT2
          have HC1 : Hid (∀ w, Calls Try.prog 63 #[.int .i64 x.e] w fun e w' => e = .returned (.bool false) ∧ w = w') := HC10
          have HF : Hid (vp = none) := (show _ = _ from by rw [HVP.out, ← HT2]; rfl)
          clear HT2 HW0 HC10 HC20 hok h1 h2
          go_wp2_with (first
            | (refine load_mid 65 (.tmp 15) HG.out _ Try.underlying65 rfl (by rw [ints_len]; exact info_mb) rfl rfl rfl ?_)
            | (refine store_mid 65 (.tmp 8) (.tmp 16) (xs := x.li) HA1.out info_mb rfl rfl rfl rfl ?_; rw [hV]; clear hV hA1 HA1 HV; generalize wr.heap.size = gm at *)
            | fail)
          refine wp_region_held_drew (S := (fun w' => w'.cell? ⟨gm, 0, none⟩ = some (.int .i64 x.p) ∧ w'.cell? ⟨gm, 1, none⟩ = some (.int .i64 x.e) ∧ w'.cell? ⟨gm, 2, none⟩ = some (.int .i64 x.l))) (by kernel_rfl) ⟨below_at (Below.refl _ _).drew m0, below_at (Below.refl _ _).drew m1, below_at (Below.refl _ _).drew m2⟩ (fun hHeld => ?_)
          simp only [Act.put, List.size_toArray, List.length_cons, List.length_nil, Nat.zero_add]
          refine wpAnyH_take (i := 0) (v := .pointer (some ⟨gm, 0, none⟩)) rfl (by kernel_rfl) (by kernel_rfl) (by kernel_rfl) (fun _ _ _ h => h) (Or.inl ⟨by rfl, fun w' hS => by go_simp⟩) hHeld ?_
          simp only [Act.put, List.getElem_toArray, List.getElem_cons_zero, List.getElem_cons_succ, List.setIfInBounds_toArray, List.set_cons_zero, List.set_cons_succ]
          refine wpAnyH_take (i := 1) (v := .int .i64 x.p) rfl (by kernel_rfl) (by kernel_rfl) (by kernel_rfl) (fun _ _ _ h => h) (Or.inl ⟨by rfl, fun w' hS => by (obtain ⟨s0, s1, s2⟩ := hS; go_simp)⟩) hHeld ?_
          simp only [Act.put, List.getElem_toArray, List.getElem_cons_zero, List.getElem_cons_succ, List.setIfInBounds_toArray, List.set_cons_zero, List.set_cons_succ]
          refine wpAnyH_take (i := 2) (v := .int .u64 (s : Int)) rfl (by kernel_rfl) (by kernel_rfl) (by kernel_rfl) (fun _ _ _ h => h) (Or.inl ⟨by rfl, fun w' hS => by go_simp⟩) hHeld ?_
          simp only [Act.put, List.getElem_toArray, List.getElem_cons_zero, List.getElem_cons_succ, List.setIfInBounds_toArray, List.set_cons_zero, List.set_cons_succ]
          refine wpAnyH_take (i := 4) (v := .int .i64 (n : Int)) rfl (by kernel_rfl) (by kernel_rfl) (by kernel_rfl) (fun _ _ _ h => h) (Or.inl ⟨by rfl, fun w' hS => by go_simp⟩) hHeld ?_
          simp only [Act.put, List.getElem_toArray, List.getElem_cons_zero, List.getElem_cons_succ, List.setIfInBounds_toArray, List.set_cons_zero, List.set_cons_succ]
          refine wpAnyH_take (i := 5) (v := .int .i64 ((n : Int) - 1)) rfl (by kernel_rfl) (by kernel_rfl) (by kernel_rfl) (fun _ _ _ h => h) (Or.inl ⟨by rfl, fun w' hS => by (go_simp; exact wrap_id (by omega) (by omega))⟩) hHeld ?_
          simp only [Act.put, List.getElem_toArray, List.getElem_cons_zero, List.getElem_cons_succ, List.setIfInBounds_toArray, List.set_cons_zero, List.set_cons_succ]
          refine wpAnyH_ready (rs := [3]) (by kernel_rfl) (by simp) ?_
          refine AllReadyH.cons rfl (fun K hK => ?_) AllReadyH.nil
          go_simp
          refine (HE.out _).mono ?_
          rintro e w2 ⟨rfl, rfl⟩
          refine hK.out _ _ ⟨below_at (Below.refl _ _).drew m0, below_at (Below.refl _ _).drew m1, below_at (Below.refl _ _).drew m2⟩ (fun hHeld => ?_)
          clear hK K
          refine wpAnyH_ready (rs := [6]) (by kernel_rfl) (by simp) ?_
          refine AllReadyH.cons rfl (fun K hK => ?_) AllReadyH.nil
          go_simp
          refine (HW.out _).mono ?_
          rintro e w2 ⟨rfl, rfl⟩
          refine hK.out _ _ ⟨below_at (Below.refl _ _).drew m0, below_at (Below.refl _ _).drew m1, below_at (Below.refl _ _).drew m2⟩ (fun hHeld => ?_)
          clear hK K
          refine wpAnyH_take (i := 7) (v := .bool false) rfl (by kernel_rfl) (by kernel_rfl) (by kernel_rfl) (fun _ _ _ h => h) (Or.inl ⟨by rfl, fun w' hS => by go_simp⟩) hHeld ?_
          simp only [Act.put, List.getElem_toArray, List.getElem_cons_zero, List.getElem_cons_succ, List.setIfInBounds_toArray, List.set_cons_zero, List.set_cons_succ]
          refine wpAnyH_take (i := 8) (v := .bool false) rfl (by kernel_rfl) (by kernel_rfl) (by kernel_rfl) (fun _ _ _ h => h) (Or.inl ⟨by rfl, fun w' hS => by go_simp⟩) hHeld ?_
          simp only [Act.put, List.getElem_toArray, List.getElem_cons_zero, List.getElem_cons_succ, List.setIfInBounds_toArray, List.set_cons_zero, List.set_cons_succ]
          refine wpAnyH_take (i := 9) (v := .pointer (some ⟨gm, 1, none⟩)) rfl (by kernel_rfl) (by kernel_rfl) (by kernel_rfl) (fun _ _ _ h => h) (Or.inl ⟨by rfl, fun w' hS => by go_simp⟩) hHeld ?_
          simp only [Act.put, List.getElem_toArray, List.getElem_cons_zero, List.getElem_cons_succ, List.setIfInBounds_toArray, List.set_cons_zero, List.set_cons_succ]
          refine wpAnyH_take (i := 10) (v := .int .i64 x.e) rfl (by kernel_rfl) (by kernel_rfl) (by kernel_rfl) (fun _ _ _ h => h) (Or.inl ⟨by rfl, fun w' hS => by (obtain ⟨s0, s1, s2⟩ := hS; go_simp)⟩) hHeld ?_
          simp only [Act.put, List.getElem_toArray, List.getElem_cons_zero, List.getElem_cons_succ, List.setIfInBounds_toArray, List.set_cons_zero, List.set_cons_succ]
          refine wpAnyH_ready (rs := [11]) (by kernel_rfl) (by simp) ?_
          refine AllReadyH.cons rfl (fun K hK => ?_) AllReadyH.nil
          go_simp
          refine (HC1.out _).mono ?_
          rintro e w2 ⟨rfl, rfl⟩
          refine hK.out _ _ ⟨below_at (Below.refl _ _).drew m0, below_at (Below.refl _ _).drew m1, below_at (Below.refl _ _).drew m2⟩ (fun hHeld => ?_)
          clear hK K
          refine wpAnyH_take (i := 12) (v := .bool true) rfl (by kernel_rfl) (by kernel_rfl) (by kernel_rfl) (fun _ _ _ h => h) (Or.inl ⟨by rfl, fun w' hS => by go_simp⟩) hHeld ?_
          simp only [Act.put, List.getElem_toArray, List.getElem_cons_zero, List.getElem_cons_succ, List.setIfInBounds_toArray, List.set_cons_zero, List.set_cons_succ]
          refine wpAnyH_take (i := 13) (v := .bool true) rfl (by kernel_rfl) (by kernel_rfl) (by kernel_rfl) (fun _ _ _ h => h) (Or.inl ⟨by rfl, fun w' hS => by go_simp⟩) hHeld ?_
          simp only [Act.put, List.getElem_toArray, List.getElem_cons_zero, List.getElem_cons_succ, List.setIfInBounds_toArray, List.set_cons_zero, List.set_cons_succ]
          refine wpAnyH_take (i := 14) (v := .bool true) rfl (by kernel_rfl) (by kernel_rfl) (by kernel_rfl) (fun _ _ _ h => h) (Or.inl ⟨by rfl, fun w' hS => by go_simp⟩) hHeld ?_
          simp only [Act.put, List.getElem_toArray, List.getElem_cons_zero, List.getElem_cons_succ, List.setIfInBounds_toArray, List.set_cons_zero, List.set_cons_succ]
          refine wpAnyH_take (i := 15) (v := undef) rfl (by kernel_rfl) (by kernel_rfl) (by kernel_rfl) (fun _ _ _ h => h) (Or.inr ⟨by rfl, rfl⟩) hHeld ?_
          simp only [Act.put, List.getElem_toArray, List.getElem_cons_zero, List.getElem_cons_succ, List.setIfInBounds_toArray, List.set_cons_zero, List.set_cons_succ]
          refine wpAnyH_take (i := 16) (v := undef) rfl (by kernel_rfl) (by kernel_rfl) (by kernel_rfl) (fun _ _ _ h => h) (Or.inr ⟨by rfl, rfl⟩) hHeld ?_
          simp only [Act.put, List.getElem_toArray, List.getElem_cons_zero, List.getElem_cons_succ, List.setIfInBounds_toArray, List.set_cons_zero, List.set_cons_succ]
          refine wpAnyH_take (i := 17) (v := undef) rfl (by kernel_rfl) (by kernel_rfl) (by kernel_rfl) (fun _ _ _ h => h) (Or.inr ⟨by rfl, rfl⟩) hHeld ?_
          simp only [Act.put, List.getElem_toArray, List.getElem_cons_zero, List.getElem_cons_succ, List.setIfInBounds_toArray, List.set_cons_zero, List.set_cons_succ]
          refine wpAnyH_take (i := 18) (v := undef) rfl (by kernel_rfl) (by kernel_rfl) (by kernel_rfl) (fun _ _ _ h => h) (Or.inr ⟨by rfl, rfl⟩) hHeld ?_
          simp only [Act.put, List.getElem_toArray, List.getElem_cons_zero, List.getElem_cons_succ, List.setIfInBounds_toArray, List.set_cons_zero, List.set_cons_succ]
          refine wpAnyH_take (i := 19) (v := .bool true) rfl (by kernel_rfl) (by kernel_rfl) (by kernel_rfl) (fun _ _ _ h => h) (Or.inl ⟨by rfl, fun w' hS => by go_simp⟩) hHeld ?_
          simp only [Act.put, List.getElem_toArray, List.getElem_cons_zero, List.getElem_cons_succ, List.setIfInBounds_toArray, List.set_cons_zero, List.set_cons_succ]
          refine wpAnyH_done (by kernel_rfl) ?_ _
          clear hHeld
          go_wp2
          (try simp only [Exit.inBlock, Exit.then])
          refine bodyPost_ret (results_tmp2 rfl _ _ _) rfl ?_
          exact ⟨0, false, rfl, .inr ⟨rfl, HF.out⟩, bstep HBB.out (Below.refl _ _).drew⟩
        | true =>
          rw [h2] at HC10 HT2
          have HC1 : Hid (∀ w, Calls Try.prog 63 #[.int .i64 x.e] w fun e w' => e = .returned (.bool true) ∧ w = w') := HC10
          cases h3 : cntB x.l with
          | false =>
            rw [h3] at HC20 HT2
            have HC2 : Hid (∀ w, Calls Try.prog 63 #[.int .i64 x.l] w fun e w' => e = .returned (.bool false) ∧ w = w') := HC20
            have HF : Hid (vp = none) := (show _ = _ from by rw [HVP.out, ← HT2]; rfl)
            clear HT2 HW0 HC10 HC20 hok h1 h2 h3
            go_wp2_with (first
              | (refine load_mid 65 (.tmp 15) HG.out _ Try.underlying65 rfl (by rw [ints_len]; exact info_mb) rfl rfl rfl ?_)
              | (refine store_mid 65 (.tmp 8) (.tmp 16) (xs := x.li) HA1.out info_mb rfl rfl rfl rfl ?_; rw [hV]; clear hV hA1 HA1 HV; generalize wr.heap.size = gm at *)
              | fail)
            refine wp_region_held_drew (S := (fun w' => w'.cell? ⟨gm, 0, none⟩ = some (.int .i64 x.p) ∧ w'.cell? ⟨gm, 1, none⟩ = some (.int .i64 x.e) ∧ w'.cell? ⟨gm, 2, none⟩ = some (.int .i64 x.l))) (by kernel_rfl) ⟨below_at (Below.refl _ _).drew m0, below_at (Below.refl _ _).drew m1, below_at (Below.refl _ _).drew m2⟩ (fun hHeld => ?_)
            simp only [Act.put, List.size_toArray, List.length_cons, List.length_nil, Nat.zero_add]
            refine wpAnyH_take (i := 0) (v := .pointer (some ⟨gm, 0, none⟩)) rfl (by kernel_rfl) (by kernel_rfl) (by kernel_rfl) (fun _ _ _ h => h) (Or.inl ⟨by rfl, fun w' hS => by go_simp⟩) hHeld ?_
            simp only [Act.put, List.getElem_toArray, List.getElem_cons_zero, List.getElem_cons_succ, List.setIfInBounds_toArray, List.set_cons_zero, List.set_cons_succ]
            refine wpAnyH_take (i := 1) (v := .int .i64 x.p) rfl (by kernel_rfl) (by kernel_rfl) (by kernel_rfl) (fun _ _ _ h => h) (Or.inl ⟨by rfl, fun w' hS => by (obtain ⟨s0, s1, s2⟩ := hS; go_simp)⟩) hHeld ?_
            simp only [Act.put, List.getElem_toArray, List.getElem_cons_zero, List.getElem_cons_succ, List.setIfInBounds_toArray, List.set_cons_zero, List.set_cons_succ]
            refine wpAnyH_take (i := 2) (v := .int .u64 (s : Int)) rfl (by kernel_rfl) (by kernel_rfl) (by kernel_rfl) (fun _ _ _ h => h) (Or.inl ⟨by rfl, fun w' hS => by go_simp⟩) hHeld ?_
            simp only [Act.put, List.getElem_toArray, List.getElem_cons_zero, List.getElem_cons_succ, List.setIfInBounds_toArray, List.set_cons_zero, List.set_cons_succ]
            refine wpAnyH_take (i := 4) (v := .int .i64 (n : Int)) rfl (by kernel_rfl) (by kernel_rfl) (by kernel_rfl) (fun _ _ _ h => h) (Or.inl ⟨by rfl, fun w' hS => by go_simp⟩) hHeld ?_
            simp only [Act.put, List.getElem_toArray, List.getElem_cons_zero, List.getElem_cons_succ, List.setIfInBounds_toArray, List.set_cons_zero, List.set_cons_succ]
            refine wpAnyH_take (i := 5) (v := .int .i64 ((n : Int) - 1)) rfl (by kernel_rfl) (by kernel_rfl) (by kernel_rfl) (fun _ _ _ h => h) (Or.inl ⟨by rfl, fun w' hS => by (go_simp; exact wrap_id (by omega) (by omega))⟩) hHeld ?_
            simp only [Act.put, List.getElem_toArray, List.getElem_cons_zero, List.getElem_cons_succ, List.setIfInBounds_toArray, List.set_cons_zero, List.set_cons_succ]
            refine wpAnyH_ready (rs := [3]) (by kernel_rfl) (by simp) ?_
            refine AllReadyH.cons rfl (fun K hK => ?_) AllReadyH.nil
            go_simp
            refine (HE.out _).mono ?_
            rintro e w2 ⟨rfl, rfl⟩
            refine hK.out _ _ ⟨below_at (Below.refl _ _).drew m0, below_at (Below.refl _ _).drew m1, below_at (Below.refl _ _).drew m2⟩ (fun hHeld => ?_)
            clear hK K
            refine wpAnyH_ready (rs := [6]) (by kernel_rfl) (by simp) ?_
            refine AllReadyH.cons rfl (fun K hK => ?_) AllReadyH.nil
            go_simp
            refine (HW.out _).mono ?_
            rintro e w2 ⟨rfl, rfl⟩
            refine hK.out _ _ ⟨below_at (Below.refl _ _).drew m0, below_at (Below.refl _ _).drew m1, below_at (Below.refl _ _).drew m2⟩ (fun hHeld => ?_)
            clear hK K
            refine wpAnyH_take (i := 7) (v := .bool false) rfl (by kernel_rfl) (by kernel_rfl) (by kernel_rfl) (fun _ _ _ h => h) (Or.inl ⟨by rfl, fun w' hS => by go_simp⟩) hHeld ?_
            simp only [Act.put, List.getElem_toArray, List.getElem_cons_zero, List.getElem_cons_succ, List.setIfInBounds_toArray, List.set_cons_zero, List.set_cons_succ]
            refine wpAnyH_take (i := 8) (v := .bool false) rfl (by kernel_rfl) (by kernel_rfl) (by kernel_rfl) (fun _ _ _ h => h) (Or.inl ⟨by rfl, fun w' hS => by go_simp⟩) hHeld ?_
            simp only [Act.put, List.getElem_toArray, List.getElem_cons_zero, List.getElem_cons_succ, List.setIfInBounds_toArray, List.set_cons_zero, List.set_cons_succ]
            refine wpAnyH_take (i := 9) (v := .pointer (some ⟨gm, 1, none⟩)) rfl (by kernel_rfl) (by kernel_rfl) (by kernel_rfl) (fun _ _ _ h => h) (Or.inl ⟨by rfl, fun w' hS => by go_simp⟩) hHeld ?_
            simp only [Act.put, List.getElem_toArray, List.getElem_cons_zero, List.getElem_cons_succ, List.setIfInBounds_toArray, List.set_cons_zero, List.set_cons_succ]
            refine wpAnyH_take (i := 10) (v := .int .i64 x.e) rfl (by kernel_rfl) (by kernel_rfl) (by kernel_rfl) (fun _ _ _ h => h) (Or.inl ⟨by rfl, fun w' hS => by (obtain ⟨s0, s1, s2⟩ := hS; go_simp)⟩) hHeld ?_
            simp only [Act.put, List.getElem_toArray, List.getElem_cons_zero, List.getElem_cons_succ, List.setIfInBounds_toArray, List.set_cons_zero, List.set_cons_succ]
            refine wpAnyH_ready (rs := [11]) (by kernel_rfl) (by simp) ?_
            refine AllReadyH.cons rfl (fun K hK => ?_) AllReadyH.nil
            go_simp
            refine (HC1.out _).mono ?_
            rintro e w2 ⟨rfl, rfl⟩
            refine hK.out _ _ ⟨below_at (Below.refl _ _).drew m0, below_at (Below.refl _ _).drew m1, below_at (Below.refl _ _).drew m2⟩ (fun hHeld => ?_)
            clear hK K
            refine wpAnyH_take (i := 12) (v := .bool false) rfl (by kernel_rfl) (by kernel_rfl) (by kernel_rfl) (fun _ _ _ h => h) (Or.inl ⟨by rfl, fun w' hS => by go_simp⟩) hHeld ?_
            simp only [Act.put, List.getElem_toArray, List.getElem_cons_zero, List.getElem_cons_succ, List.setIfInBounds_toArray, List.set_cons_zero, List.set_cons_succ]
            refine wpAnyH_take (i := 13) (v := .bool false) rfl (by kernel_rfl) (by kernel_rfl) (by kernel_rfl) (fun _ _ _ h => h) (Or.inl ⟨by rfl, fun w' hS => by go_simp⟩) hHeld ?_
            simp only [Act.put, List.getElem_toArray, List.getElem_cons_zero, List.getElem_cons_succ, List.setIfInBounds_toArray, List.set_cons_zero, List.set_cons_succ]
            refine wpAnyH_take (i := 14) (v := .bool false) rfl (by kernel_rfl) (by kernel_rfl) (by kernel_rfl) (fun _ _ _ h => h) (Or.inl ⟨by rfl, fun w' hS => by go_simp⟩) hHeld ?_
            simp only [Act.put, List.getElem_toArray, List.getElem_cons_zero, List.getElem_cons_succ, List.setIfInBounds_toArray, List.set_cons_zero, List.set_cons_succ]
            refine wpAnyH_take (i := 15) (v := .pointer (some ⟨gm, 2, none⟩)) rfl (by kernel_rfl) (by kernel_rfl) (by kernel_rfl) (fun _ _ _ h => h) (Or.inl ⟨by rfl, fun w' hS => by go_simp⟩) hHeld ?_
            simp only [Act.put, List.getElem_toArray, List.getElem_cons_zero, List.getElem_cons_succ, List.setIfInBounds_toArray, List.set_cons_zero, List.set_cons_succ]
            refine wpAnyH_take (i := 16) (v := .int .i64 x.l) rfl (by kernel_rfl) (by kernel_rfl) (by kernel_rfl) (fun _ _ _ h => h) (Or.inl ⟨by rfl, fun w' hS => by (obtain ⟨s0, s1, s2⟩ := hS; go_simp)⟩) hHeld ?_
            simp only [Act.put, List.getElem_toArray, List.getElem_cons_zero, List.getElem_cons_succ, List.setIfInBounds_toArray, List.set_cons_zero, List.set_cons_succ]
            refine wpAnyH_ready (rs := [17]) (by kernel_rfl) (by simp) ?_
            refine AllReadyH.cons rfl (fun K hK => ?_) AllReadyH.nil
            go_simp
            refine (HC2.out _).mono ?_
            rintro e w2 ⟨rfl, rfl⟩
            refine hK.out _ _ ⟨below_at (Below.refl _ _).drew m0, below_at (Below.refl _ _).drew m1, below_at (Below.refl _ _).drew m2⟩ (fun hHeld => ?_)
            clear hK K
            refine wpAnyH_take (i := 18) (v := .bool true) rfl (by kernel_rfl) (by kernel_rfl) (by kernel_rfl) (fun _ _ _ h => h) (Or.inl ⟨by rfl, fun w' hS => by go_simp⟩) hHeld ?_
            simp only [Act.put, List.getElem_toArray, List.getElem_cons_zero, List.getElem_cons_succ, List.setIfInBounds_toArray, List.set_cons_zero, List.set_cons_succ]
            refine wpAnyH_take (i := 19) (v := .bool true) rfl (by kernel_rfl) (by kernel_rfl) (by kernel_rfl) (fun _ _ _ h => h) (Or.inl ⟨by rfl, fun w' hS => by go_simp⟩) hHeld ?_
            simp only [Act.put, List.getElem_toArray, List.getElem_cons_zero, List.getElem_cons_succ, List.setIfInBounds_toArray, List.set_cons_zero, List.set_cons_succ]
            refine wpAnyH_done (by kernel_rfl) ?_ _
            clear hHeld
            go_wp2
            (try simp only [Exit.inBlock, Exit.then])
            refine bodyPost_ret (results_tmp2 rfl _ _ _) rfl ?_
            exact ⟨0, false, rfl, .inr ⟨rfl, HF.out⟩, bstep HBB.out (Below.refl _ _).drew⟩
          | true =>
            rw [h3] at HC20 HT2
            have HC2 : Hid (∀ w, Calls Try.prog 63 #[.int .i64 x.l] w fun e w' => e = .returned (.bool true) ∧ w = w') := HC20
            obtain ⟨p, hpp⟩ := Int.eq_ofNat_of_zero_le (show 0 ≤ x.p by omega)
            rw [hpp] at m0 HT2 HW hx2
            have hp16 : p < 16 := by omega
            have HWi : Hid (∀ w, Calls Try.prog 62 #[.int .u64 (s : Int), .int .i64 (p : Int)] w fun e w' => e = .returned (.int .u64 ((s ||| 2 ^ p : Nat) : Int)) ∧ w = w') := fun w => with_any s p hs hp16
            have hs2 := with_lt hs hp16
            simp only [Bool.and_self, if_true, Int.toNat_natCast] at HT2
            have HT3 : Hid (memP n (s ||| 2 ^ p) (ms.drop (k + 1)) = memP n 0 ms) := HT2
            generalize s ||| 2 ^ p = s2 at *
            clear HT2 HW0 HC10 HC20 hok h1 h2 h3 hpp
            go_wp2_with (first
              | (refine load_mid 65 (.tmp 15) HG.out _ Try.underlying65 rfl (by rw [ints_len]; exact info_mb) rfl rfl rfl ?_)
              | (refine store_mid 65 (.tmp 8) (.tmp 16) (xs := x.li) HA1.out info_mb rfl rfl rfl rfl ?_; rw [hV]; clear hV hA1 HA1 HV; generalize wr.heap.size = gm at *)
              | fail)
            refine wp_region_held_drew (S := (fun w' => w'.cell? ⟨gm, 0, none⟩ = some (.int .i64 (p : Int)) ∧ w'.cell? ⟨gm, 1, none⟩ = some (.int .i64 x.e) ∧ w'.cell? ⟨gm, 2, none⟩ = some (.int .i64 x.l))) (by kernel_rfl) ⟨below_at (Below.refl _ _).drew m0, below_at (Below.refl _ _).drew m1, below_at (Below.refl _ _).drew m2⟩ (fun hHeld => ?_)
            simp only [Act.put, List.size_toArray, List.length_cons, List.length_nil, Nat.zero_add]
            refine wpAnyH_take (i := 0) (v := .pointer (some ⟨gm, 0, none⟩)) rfl (by kernel_rfl) (by kernel_rfl) (by kernel_rfl) (fun _ _ _ h => h) (Or.inl ⟨by rfl, fun w' hS => by go_simp⟩) hHeld ?_
            simp only [Act.put, List.getElem_toArray, List.getElem_cons_zero, List.getElem_cons_succ, List.setIfInBounds_toArray, List.set_cons_zero, List.set_cons_succ]
            refine wpAnyH_take (i := 1) (v := .int .i64 (p : Int)) rfl (by kernel_rfl) (by kernel_rfl) (by kernel_rfl) (fun _ _ _ h => h) (Or.inl ⟨by rfl, fun w' hS => by (obtain ⟨s0, s1, s2⟩ := hS; go_simp)⟩) hHeld ?_
            simp only [Act.put, List.getElem_toArray, List.getElem_cons_zero, List.getElem_cons_succ, List.setIfInBounds_toArray, List.set_cons_zero, List.set_cons_succ]
            refine wpAnyH_take (i := 2) (v := .int .u64 (s : Int)) rfl (by kernel_rfl) (by kernel_rfl) (by kernel_rfl) (fun _ _ _ h => h) (Or.inl ⟨by rfl, fun w' hS => by go_simp⟩) hHeld ?_
            simp only [Act.put, List.getElem_toArray, List.getElem_cons_zero, List.getElem_cons_succ, List.setIfInBounds_toArray, List.set_cons_zero, List.set_cons_succ]
            refine wpAnyH_take (i := 4) (v := .int .i64 (n : Int)) rfl (by kernel_rfl) (by kernel_rfl) (by kernel_rfl) (fun _ _ _ h => h) (Or.inl ⟨by rfl, fun w' hS => by go_simp⟩) hHeld ?_
            simp only [Act.put, List.getElem_toArray, List.getElem_cons_zero, List.getElem_cons_succ, List.setIfInBounds_toArray, List.set_cons_zero, List.set_cons_succ]
            refine wpAnyH_take (i := 5) (v := .int .i64 ((n : Int) - 1)) rfl (by kernel_rfl) (by kernel_rfl) (by kernel_rfl) (fun _ _ _ h => h) (Or.inl ⟨by rfl, fun w' hS => by (go_simp; exact wrap_id (by omega) (by omega))⟩) hHeld ?_
            simp only [Act.put, List.getElem_toArray, List.getElem_cons_zero, List.getElem_cons_succ, List.setIfInBounds_toArray, List.set_cons_zero, List.set_cons_succ]
            refine wpAnyH_ready (rs := [3]) (by kernel_rfl) (by simp) ?_
            refine AllReadyH.cons rfl (fun K hK => ?_) AllReadyH.nil
            go_simp
            refine (HE.out _).mono ?_
            rintro e w2 ⟨rfl, rfl⟩
            refine hK.out _ _ ⟨below_at (Below.refl _ _).drew m0, below_at (Below.refl _ _).drew m1, below_at (Below.refl _ _).drew m2⟩ (fun hHeld => ?_)
            clear hK K
            refine wpAnyH_ready (rs := [6]) (by kernel_rfl) (by simp) ?_
            refine AllReadyH.cons rfl (fun K hK => ?_) AllReadyH.nil
            go_simp
            refine (HW.out _).mono ?_
            rintro e w2 ⟨rfl, rfl⟩
            refine hK.out _ _ ⟨below_at (Below.refl _ _).drew m0, below_at (Below.refl _ _).drew m1, below_at (Below.refl _ _).drew m2⟩ (fun hHeld => ?_)
            clear hK K
            refine wpAnyH_take (i := 7) (v := .bool false) rfl (by kernel_rfl) (by kernel_rfl) (by kernel_rfl) (fun _ _ _ h => h) (Or.inl ⟨by rfl, fun w' hS => by go_simp⟩) hHeld ?_
            simp only [Act.put, List.getElem_toArray, List.getElem_cons_zero, List.getElem_cons_succ, List.setIfInBounds_toArray, List.set_cons_zero, List.set_cons_succ]
            refine wpAnyH_take (i := 8) (v := .bool false) rfl (by kernel_rfl) (by kernel_rfl) (by kernel_rfl) (fun _ _ _ h => h) (Or.inl ⟨by rfl, fun w' hS => by go_simp⟩) hHeld ?_
            simp only [Act.put, List.getElem_toArray, List.getElem_cons_zero, List.getElem_cons_succ, List.setIfInBounds_toArray, List.set_cons_zero, List.set_cons_succ]
            refine wpAnyH_take (i := 9) (v := .pointer (some ⟨gm, 1, none⟩)) rfl (by kernel_rfl) (by kernel_rfl) (by kernel_rfl) (fun _ _ _ h => h) (Or.inl ⟨by rfl, fun w' hS => by go_simp⟩) hHeld ?_
            simp only [Act.put, List.getElem_toArray, List.getElem_cons_zero, List.getElem_cons_succ, List.setIfInBounds_toArray, List.set_cons_zero, List.set_cons_succ]
            refine wpAnyH_take (i := 10) (v := .int .i64 x.e) rfl (by kernel_rfl) (by kernel_rfl) (by kernel_rfl) (fun _ _ _ h => h) (Or.inl ⟨by rfl, fun w' hS => by (obtain ⟨s0, s1, s2⟩ := hS; go_simp)⟩) hHeld ?_
            simp only [Act.put, List.getElem_toArray, List.getElem_cons_zero, List.getElem_cons_succ, List.setIfInBounds_toArray, List.set_cons_zero, List.set_cons_succ]
            refine wpAnyH_ready (rs := [11]) (by kernel_rfl) (by simp) ?_
            refine AllReadyH.cons rfl (fun K hK => ?_) AllReadyH.nil
            go_simp
            refine (HC1.out _).mono ?_
            rintro e w2 ⟨rfl, rfl⟩
            refine hK.out _ _ ⟨below_at (Below.refl _ _).drew m0, below_at (Below.refl _ _).drew m1, below_at (Below.refl _ _).drew m2⟩ (fun hHeld => ?_)
            clear hK K
            refine wpAnyH_take (i := 12) (v := .bool false) rfl (by kernel_rfl) (by kernel_rfl) (by kernel_rfl) (fun _ _ _ h => h) (Or.inl ⟨by rfl, fun w' hS => by go_simp⟩) hHeld ?_
            simp only [Act.put, List.getElem_toArray, List.getElem_cons_zero, List.getElem_cons_succ, List.setIfInBounds_toArray, List.set_cons_zero, List.set_cons_succ]
            refine wpAnyH_take (i := 13) (v := .bool false) rfl (by kernel_rfl) (by kernel_rfl) (by kernel_rfl) (fun _ _ _ h => h) (Or.inl ⟨by rfl, fun w' hS => by go_simp⟩) hHeld ?_
            simp only [Act.put, List.getElem_toArray, List.getElem_cons_zero, List.getElem_cons_succ, List.setIfInBounds_toArray, List.set_cons_zero, List.set_cons_succ]
            refine wpAnyH_take (i := 14) (v := .bool false) rfl (by kernel_rfl) (by kernel_rfl) (by kernel_rfl) (fun _ _ _ h => h) (Or.inl ⟨by rfl, fun w' hS => by go_simp⟩) hHeld ?_
            simp only [Act.put, List.getElem_toArray, List.getElem_cons_zero, List.getElem_cons_succ, List.setIfInBounds_toArray, List.set_cons_zero, List.set_cons_succ]
            refine wpAnyH_take (i := 15) (v := .pointer (some ⟨gm, 2, none⟩)) rfl (by kernel_rfl) (by kernel_rfl) (by kernel_rfl) (fun _ _ _ h => h) (Or.inl ⟨by rfl, fun w' hS => by go_simp⟩) hHeld ?_
            simp only [Act.put, List.getElem_toArray, List.getElem_cons_zero, List.getElem_cons_succ, List.setIfInBounds_toArray, List.set_cons_zero, List.set_cons_succ]
            refine wpAnyH_take (i := 16) (v := .int .i64 x.l) rfl (by kernel_rfl) (by kernel_rfl) (by kernel_rfl) (fun _ _ _ h => h) (Or.inl ⟨by rfl, fun w' hS => by (obtain ⟨s0, s1, s2⟩ := hS; go_simp)⟩) hHeld ?_
            simp only [Act.put, List.getElem_toArray, List.getElem_cons_zero, List.getElem_cons_succ, List.setIfInBounds_toArray, List.set_cons_zero, List.set_cons_succ]
            refine wpAnyH_ready (rs := [17]) (by kernel_rfl) (by simp) ?_
            refine AllReadyH.cons rfl (fun K hK => ?_) AllReadyH.nil
            go_simp
            refine (HC2.out _).mono ?_
            rintro e w2 ⟨rfl, rfl⟩
            refine hK.out _ _ ⟨below_at (Below.refl _ _).drew m0, below_at (Below.refl _ _).drew m1, below_at (Below.refl _ _).drew m2⟩ (fun hHeld => ?_)
            clear hK K
            refine wpAnyH_take (i := 18) (v := .bool false) rfl (by kernel_rfl) (by kernel_rfl) (by kernel_rfl) (fun _ _ _ h => h) (Or.inl ⟨by rfl, fun w' hS => by go_simp⟩) hHeld ?_
            simp only [Act.put, List.getElem_toArray, List.getElem_cons_zero, List.getElem_cons_succ, List.setIfInBounds_toArray, List.set_cons_zero, List.set_cons_succ]
            refine wpAnyH_take (i := 19) (v := .bool false) rfl (by kernel_rfl) (by kernel_rfl) (by kernel_rfl) (fun _ _ _ h => h) (Or.inl ⟨by rfl, fun w' hS => by go_simp⟩) hHeld ?_
            simp only [Act.put, List.getElem_toArray, List.getElem_cons_zero, List.getElem_cons_succ, List.setIfInBounds_toArray, List.set_cons_zero, List.set_cons_succ]
            refine wpAnyH_done (by kernel_rfl) ?_ _
            clear hHeld
            replace m0 := below_at (Below.refl _ _).drew m0
            go_wp2_with (first
              | (go_at_call 62; refine (HWi.out _).mono ?_; rintro e w2 ⟨rfl, rfl⟩)
              | fail)
            exact ⟨⟨k + 1, s2, by omega, by go_num, rfl, hs2, HT3, bstep HBC.out (Below.refl _ _).drew⟩, by simp [intOf]; omega⟩
    · obtain rfl : k = mn := by omega
      have HM : Hid (memP n 0 ms = some s) := (show _ = _ from by
        have := HT.out
        rw [List.drop_of_length_le (by have := Hl.out; omega)] at this
        rw [← this]
        rfl)
      have HBr : Hid (Below w.heap.size w wr) := bstep HBW.out HB.out
      have HC0 := fun w => isCount_any (w := w) ep
      by_cases h0 : k = 0
      · subst h0
        have HF : Hid (vp = none) := (show _ = _ from by rw [HVP.out, HM.out]; simp [Hl.out])
        clear HC0
        go_wp2
        (try simp only [Exit.inBlock, Exit.then])
        refine bodyPost_ret (results_tmp2 rfl _ _ _) rfl ?_
        exact ⟨0, false, rfl, .inr ⟨rfl, HF.out⟩, HBr.out⟩
      · have h0b : ((k : Int) == 0) = false := by rw [beq_eq_false_iff_ne]; omega
        cases hce : cntB ep with
        | false =>
          rw [hce] at HC0
          have HC : Hid (∀ w, Calls Try.prog 63 #[.int .i64 ep] w fun e w' => e = .returned (.bool false) ∧ w = w') := HC0
          have HF : Hid (vp = none) := (show _ = _ from by rw [HVP.out, HM.out]; simp [hce])
          clear HC0 hce
          go_wp2_with (first
            | (go_at_call 63; refine (HC.out _).mono ?_; rintro e w' ⟨rfl, rfl⟩)
            | fail)
          (try simp only [Exit.inBlock, Exit.then])
          refine bodyPost_ret (results_tmp2 rfl _ _ _) rfl ?_
          exact ⟨0, false, rfl, .inr ⟨rfl, HF.out⟩, HBr.out⟩
        | true =>
          rw [hce] at HC0
          have HC : Hid (∀ w, Calls Try.prog 63 #[.int .i64 ep] w fun e w' => e = .returned (.bool true) ∧ w = w') := HC0
          obtain ⟨g, o, hg, hc⟩ := (HR.out.still HB.out).at (i := 0) (by omega)
          have HF0 : vp = if [ep, ld, ic, cd] = [ep, (ms.getD 0 z3).p, (ms.getD 0 z3).e, (ms.getD 0 z3).l] then some s else none := by
            rw [HVP.out, HM.out]
            simp only [Hl.out, h0, if_false, hce, if_true]
          rw [hg] at q4
          generalize ms.getD 0 z3 = x at *
          rw [Nat.zero_mul, Nat.add_zero] at hc
          have HG : Hid (wr.rangeAt g o (ints x.li)) := hc
          obtain ⟨A1, V, hA1, HA1, hV, HV, HBV⟩ := newm wr x
          have HBB : Hid (Below w.heap.size w V) := bstep HBr.out HBV.out
          have m0 : V.cell? ⟨wr.heap.size, 0, none⟩ = some (.int .i64 x.p) := HV.out.cell (i := 0) (by rw [St.li_len]; decide)
          have m1 : V.cell? ⟨wr.heap.size, 1, none⟩ = some (.int .i64 x.e) := HV.out.cell (i := 1) (by rw [St.li_len]; decide)
          have m2 : V.cell? ⟨wr.heap.size, 2, none⟩ = some (.int .i64 x.l) := HV.out.cell (i := 2) (by rw [St.li_len]; decide)
          have r0 : V.rangeAt w.heap.size 0 (ints [ep, ld, ic, cd]) := below_range (bstep HB.out HBV.out) HQr.out
          have Q0 := below_at HBV.out q0
          have i2 : (0 : Int) < (k : Int) := by omega
          have HF : Hid ((decide ([ep, ld, ic, cd] = [ep, x.p, x.e, x.l]) = true ∧ vp = some s) ∨ (decide ([ep, ld, ic, cd] = [ep, x.p, x.e, x.l]) = false ∧ vp = none)) := by
            by_cases he : [ep, ld, ic, cd] = [ep, x.p, x.e, x.l]
            · exact .inl ⟨decide_eq_true he, by rw [HF0, if_pos he]⟩
            · exact .inr ⟨decide_eq_false he, by rw [HF0, if_neg he]⟩
          clear HC0 hce hg hc HF0 HBV
          go_wp2_with (first
            | (go_at_call 63; refine (HC.out _).mono ?_; rintro e w' ⟨rfl, rfl⟩)
            | (refine load_mid 65 (.tmp 55) HG.out _ Try.underlying65 rfl (by rw [ints_len]; exact info_mb) rfl rfl rfl ?_)
            | (refine store_mid 65 (.tmp 9) (.tmp 56) (xs := x.li) HA1.out info_mb rfl rfl rfl rfl ?_; rw [hV]; clear hV hA1 HA1 HV q0; have q0 := Q0; clear Q0; generalize wr.heap.size = gm at *)
            | fail)
          refine wp_region_held_drew (S := (fun w' => w'.rangeAt w.heap.size 0 (ints [ep, ld, ic, cd]) ∧ w'.cell? ⟨w.heap.size, 0, none⟩ = some (.int .i64 ep) ∧ w'.cell? ⟨gm, 0, none⟩ = some (.int .i64 x.p) ∧ w'.cell? ⟨gm, 1, none⟩ = some (.int .i64 x.e) ∧ w'.cell? ⟨gm, 2, none⟩ = some (.int .i64 x.l))) (by kernel_rfl) ⟨below_range (Below.refl _ _).drew r0, below_at (Below.refl _ _).drew q0, below_at (Below.refl _ _).drew m0, below_at (Below.refl _ _).drew m1, below_at (Below.refl _ _).drew m2⟩ (fun hHeld => ?_)
          simp only [Act.put, List.size_toArray, List.length_cons, List.length_nil, Nat.zero_add]
          refine wpAnyH_take (i := 0) (v := .int .u64 (s : Int)) rfl (by kernel_rfl) (by kernel_rfl) (by kernel_rfl) (fun _ _ _ h => h) (Or.inl ⟨by rfl, fun w' hS => by go_simp⟩) hHeld ?_
          simp only [Act.put, List.getElem_toArray, List.getElem_cons_zero, List.getElem_cons_succ, List.setIfInBounds_toArray, List.set_cons_zero, List.set_cons_succ]
          refine wpAnyH_take (i := 1) (v := .pointer (some ⟨w.heap.size, 0, none⟩)) rfl (by kernel_rfl) (by kernel_rfl) (by kernel_rfl) (fun _ _ _ h => h) (Or.inl ⟨by rfl, fun w' hS => by go_simp⟩) hHeld ?_
          simp only [Act.put, List.getElem_toArray, List.getElem_cons_zero, List.getElem_cons_succ, List.setIfInBounds_toArray, List.set_cons_zero, List.set_cons_succ]
          refine wpAnyH_take (i := 2) (v := .agg (ints [ep, ld, ic, cd]).toArray) rfl (by kernel_rfl) (by kernel_rfl) (by kernel_rfl) (fun _ _ _ h => h) (yieldsIf_load_mid (by rfl) 59 (.tmp 58) rfl w.heap.size (0) (by rfl) (ints [ep, ld, ic, cd]) _ (fun w' hS => hS.1) Try.underlying59 rfl (by rw [ints_len, (show [ep, ld, ic, cd].length = 4 from rfl)]; exact info_vid)) hHeld ?_
          simp only [Act.put, List.getElem_toArray, List.getElem_cons_zero, List.getElem_cons_succ, List.setIfInBounds_toArray, List.set_cons_zero, List.set_cons_succ]
          refine wpAnyH_take (i := 3) (v := .pointer (some ⟨w.heap.size, 0, none⟩)) rfl (by kernel_rfl) (by kernel_rfl) (by kernel_rfl) (fun _ _ _ h => h) (Or.inl ⟨by rfl, fun w' hS => by go_simp⟩) hHeld ?_
          simp only [Act.put, List.getElem_toArray, List.getElem_cons_zero, List.getElem_cons_succ, List.setIfInBounds_toArray, List.set_cons_zero, List.set_cons_succ]
          refine wpAnyH_take (i := 4) (v := .pointer (some ⟨w.heap.size, 0, none⟩)) rfl (by kernel_rfl) (by kernel_rfl) (by kernel_rfl) (fun _ _ _ h => h) (Or.inl ⟨by rfl, fun w' hS => by go_simp⟩) hHeld ?_
          simp only [Act.put, List.getElem_toArray, List.getElem_cons_zero, List.getElem_cons_succ, List.setIfInBounds_toArray, List.set_cons_zero, List.set_cons_succ]
          refine wpAnyH_take (i := 5) (v := .int .i64 ep) rfl (by kernel_rfl) (by kernel_rfl) (by kernel_rfl) (fun _ _ _ h => h) (Or.inl ⟨by rfl, fun w' hS => by (obtain ⟨s0, s1, s2, s3, s4⟩ := hS; go_simp)⟩) hHeld ?_
          simp only [Act.put, List.getElem_toArray, List.getElem_cons_zero, List.getElem_cons_succ, List.setIfInBounds_toArray, List.set_cons_zero, List.set_cons_succ]
          refine wpAnyH_take (i := 6) (v := .pointer (some ⟨gm, 0, none⟩)) rfl (by kernel_rfl) (by kernel_rfl) (by kernel_rfl) (fun _ _ _ h => h) (Or.inl ⟨by rfl, fun w' hS => by go_simp⟩) hHeld ?_
          simp only [Act.put, List.getElem_toArray, List.getElem_cons_zero, List.getElem_cons_succ, List.setIfInBounds_toArray, List.set_cons_zero, List.set_cons_succ]
          refine wpAnyH_take (i := 7) (v := .int .i64 x.p) rfl (by kernel_rfl) (by kernel_rfl) (by kernel_rfl) (fun _ _ _ h => h) (Or.inl ⟨by rfl, fun w' hS => by (obtain ⟨s0, s1, s2, s3, s4⟩ := hS; go_simp)⟩) hHeld ?_
          simp only [Act.put, List.getElem_toArray, List.getElem_cons_zero, List.getElem_cons_succ, List.setIfInBounds_toArray, List.set_cons_zero, List.set_cons_succ]
          refine wpAnyH_take (i := 8) (v := .pointer (some ⟨gm, 1, none⟩)) rfl (by kernel_rfl) (by kernel_rfl) (by kernel_rfl) (fun _ _ _ h => h) (Or.inl ⟨by rfl, fun w' hS => by go_simp⟩) hHeld ?_
          simp only [Act.put, List.getElem_toArray, List.getElem_cons_zero, List.getElem_cons_succ, List.setIfInBounds_toArray, List.set_cons_zero, List.set_cons_succ]
          refine wpAnyH_take (i := 9) (v := .int .i64 x.e) rfl (by kernel_rfl) (by kernel_rfl) (by kernel_rfl) (fun _ _ _ h => h) (Or.inl ⟨by rfl, fun w' hS => by (obtain ⟨s0, s1, s2, s3, s4⟩ := hS; go_simp)⟩) hHeld ?_
          simp only [Act.put, List.getElem_toArray, List.getElem_cons_zero, List.getElem_cons_succ, List.setIfInBounds_toArray, List.set_cons_zero, List.set_cons_succ]
          refine wpAnyH_take (i := 10) (v := .pointer (some ⟨gm, 2, none⟩)) rfl (by kernel_rfl) (by kernel_rfl) (by kernel_rfl) (fun _ _ _ h => h) (Or.inl ⟨by rfl, fun w' hS => by go_simp⟩) hHeld ?_
          simp only [Act.put, List.getElem_toArray, List.getElem_cons_zero, List.getElem_cons_succ, List.setIfInBounds_toArray, List.set_cons_zero, List.set_cons_succ]
          refine wpAnyH_take (i := 11) (v := .int .i64 x.l) rfl (by kernel_rfl) (by kernel_rfl) (by kernel_rfl) (fun _ _ _ h => h) (Or.inl ⟨by rfl, fun w' hS => by (obtain ⟨s0, s1, s2, s3, s4⟩ := hS; go_simp)⟩) hHeld ?_
          simp only [Act.put, List.getElem_toArray, List.getElem_cons_zero, List.getElem_cons_succ, List.setIfInBounds_toArray, List.set_cons_zero, List.set_cons_succ]
          refine wpAnyH_take (i := 12) (v := .agg #[.int .i64 ep, .int .i64 x.p, .int .i64 x.e, .int .i64 x.l]) rfl (by kernel_rfl) (by kernel_rfl) (by kernel_rfl) (fun _ _ _ h => h) (Or.inl ⟨by rfl, fun w' hS => by go_simp⟩) hHeld ?_
          simp only [Act.put, List.getElem_toArray, List.getElem_cons_zero, List.getElem_cons_succ, List.setIfInBounds_toArray, List.set_cons_zero, List.set_cons_succ]
          refine wpAnyH_take (i := 13) (v := .bool (decide ([ep, ld, ic, cd] = [ep, x.p, x.e, x.l]))) rfl (by kernel_rfl) (by kernel_rfl) (by kernel_rfl) (fun _ _ _ h => h) (Or.inl ⟨by rfl, fun w' hS => run_eqlop 59 (.tmp 59) (.tmp 69) 59 rfl _ _ (by rfl) (by rfl) (by kernel_rfl) _ (eq_vid 9998 [ep, ld, ic, cd] [ep, x.p, x.e, x.l] rfl rfl)⟩) hHeld ?_
          simp only [Act.put, List.getElem_toArray, List.getElem_cons_zero, List.getElem_cons_succ, List.setIfInBounds_toArray, List.set_cons_zero, List.set_cons_succ]
          refine wpAnyH_take (i := 14) (v := .int .u64 (s : Int)) rfl (by kernel_rfl) (by kernel_rfl) (by kernel_rfl) (fun _ _ _ h => h) (Or.inl ⟨by rfl, fun w' hS => by go_simp⟩) hHeld ?_
          simp only [Act.put, List.getElem_toArray, List.getElem_cons_zero, List.getElem_cons_succ, List.setIfInBounds_toArray, List.set_cons_zero, List.set_cons_succ]
          refine wpAnyH_take (i := 15) (v := .bool (decide ([ep, ld, ic, cd] = [ep, x.p, x.e, x.l]))) rfl (by kernel_rfl) (by kernel_rfl) (by kernel_rfl) (fun _ _ _ h => h) (Or.inl ⟨by rfl, fun w' hS => by go_simp⟩) hHeld ?_
          simp only [Act.put, List.getElem_toArray, List.getElem_cons_zero, List.getElem_cons_succ, List.setIfInBounds_toArray, List.set_cons_zero, List.set_cons_succ]
          refine wpAnyH_done (by kernel_rfl) ?_ _
          clear hHeld
          go_wp2
          (try simp only [Exit.inBlock, Exit.then])
          refine bodyPost_ret (results_tmp2 rfl _ _ _) rfl ?_
          exact ⟨s, _, rfl, HF.out, bstep HBB.out (Below.refl _ _).drew⟩
end
end Go.Proofs.Ytnmnobcikmiojaa.Qm
