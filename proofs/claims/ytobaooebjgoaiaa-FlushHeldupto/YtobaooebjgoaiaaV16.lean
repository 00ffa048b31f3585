import Derived.Test.YtobaooebjgoaiaaV09
import Derived.Test.YtobaooebjgoaiaaV15
namespace Go.Proofs.Ytobaooebjgoaiaa.Fm
open Go.RowKit Go.Maps Mb
set_option linter.unusedVariables false
set_option maxRecDepth 100000
set_option linter.unusedSimpArgs false
def psTo (cs : List Co) (c i : Nat) : List (Int × (Int × Int)) := allP (cs.take c) ++ (pairs (cs.getD c c0)).take i
theorem pairs_len (f : Co) : (pairs f).length = f.sl.length := by simp [pairs]
theorem psTo_next {cs : List Co} {c i : Nat} (h : i < (cs.getD c c0).sl.length) : psTo cs c (i + 1) = psTo cs c i ++ [((cs.getD c c0).base + 1 + (i : Int), (cs.getD c c0).sl.getD i z2)] := by
 unfold psTo
 rw [List.take_add_one, ← List.append_assoc]
 congr 1
 generalize cs.getD c c0 = f at *
 have e : (pairs f)[i]? = some (f.base + 1 + (i : Int), f.sl.getD i z2) := by
  unfold pairs
  rw [List.getElem?_map, List.getElem?_range h]
  rfl
 rw [e]
 rfl
theorem psTo_row {cs : List Co} {c : Nat} (h : c < cs.length) : psTo cs c (cs.getD c c0).sl.length = psTo cs (c + 1) 0 := by
 unfold psTo
 rw [← pairs_len, List.take_length]
 have e : cs.take (c + 1) = cs.take c ++ [cs.getD c c0] := by
  rw [List.take_add_one]
  simp [List.getD, h]
 rw [e]
 simp [allP]
theorem psTo_all (cs : List Co) : psTo cs cs.length 0 = allP cs := by simp [psTo]
theorem psTo_sub {cs : List Co} {c i : Nat} (h : c < cs.length) {p : Int × (Int × Int)} (hp : p ∈ psTo cs c i) : p ∈ allP cs := by
 unfold psTo at hp
 rcases List.mem_append.1 hp with hp | hp
 ·obtain ⟨f, hf, hq⟩ := mem_allP.1 hp
  exact mem_allP.2 ⟨f, List.mem_of_mem_take hf, hq⟩
 ·exact mem_allP.2 ⟨_, mem_getD h, List.mem_of_mem_take hp⟩
structure Inv (ps : List (Int × (Int × Int))) (F : Int → Option (Int × Int)) (G : Int × Int → Option Int) : Prop where
 f : ∀ pos s, F pos = some s ↔ (pos, s) ∈ ps
 g : ∀ s pos, G s = some pos ↔ (pos, s) ∈ ps
theorem Inv.nil : Inv [] (fun _ => none) (fun _ => none) := ⟨fun _ _ => by simp, fun _ _ => by simp⟩
theorem Inv.con {ps : List (Int × (Int × Int))} {F : Int → Option (Int × Int)} {G : Int × Int → Option Int} (h : Inv ps F G) : Con ps := by
 rintro ⟨a, s⟩ hp ⟨b, t⟩ hq
 have h1 := (h.f a s).2 hp
 have h2 := (h.f b t).2 hq
 have h3 := (h.g s a).2 hp
 have h4 := (h.g t b).2 hq
 constructor
 ·intro e
  simp only at e ⊢
  subst e
  rw [h1] at h2
  simpa using h2
 ·intro e
  simp only at e ⊢
  subst e
  rw [h3] at h4
  simpa using h4
section
variable {cs : List Co} {c i : Nat} {F : Int → Option (Int × Int)} {G : Int × Int → Option Int} {pos : Int} {s : Int × Int}
theorem Inv.bad1 (h : Inv (psTo cs c i) F G) (hc : c < cs.length) (hp : (pos, s) ∈ allP cs) {t : Int × Int} (hF : F pos = some t) (hne : t ≠ s) : ¬ Con (allP cs) := fun hC =>
 hne ((hC (pos, t) (psTo_sub hc ((h.f pos t).1 hF)) (pos, s) hp).1 rfl)
theorem Inv.bad2 (h : Inv (psTo cs c i) F G) (hc : c < cs.length) (hp : (pos, s) ∈ allP cs) {q : Int} (hG : G s = some q) (hne : q ≠ pos) : ¬ Con (allP cs) := fun hC =>
 hne ((hC (q, s) (psTo_sub hc ((h.g s q).1 hG)) (pos, s) hp).2 rfl)
theorem Inv.put {ps : List (Int × (Int × Int))} (h : Inv ps F G) (hF : ∀ t, F pos = some t → t = s) (hG : ∀ q, G s = some q → q = pos) : Inv (ps ++ [(pos, s)]) (updO F pos s) (updO G s pos) := by
 constructor
 ·intro a t
  unfold updO
  rw [List.mem_append, List.mem_singleton]
  by_cases e : a = pos
  ·subst e
   rw [if_pos rfl]
   constructor
   ·intro e2; cases e2; exact .inr rfl
   ·rintro (h1 | h1)
    ·rw [hF t ((h.f a t).2 h1)]
    ·cases h1; rfl
  ·rw [if_neg e, h.f]
   constructor
   ·exact .inl
   ·rintro (h1 | h1)
    ·exact h1
    ·cases h1; exact absurd rfl e
 ·intro t a
  unfold updO
  rw [List.mem_append, List.mem_singleton]
  by_cases e : t = s
  ·subst e
   rw [if_pos rfl]
   constructor
   ·intro e2; cases e2; exact .inr rfl
   ·rintro (h1 | h1)
    ·rw [hG a ((h.g t a).2 h1)]
    ·cases h1; rfl
  ·rw [if_neg e, h.g]
   constructor
   ·exact .inl
   ·rintro (h1 | h1)
    ·exact h1
    ·cases h1; exact absurd rfl e
theorem Inv.both {ps : List (Int × (Int × Int))} (h : Inv ps F G) (hF : F pos = some s) : G s = some pos := (h.g s pos).2 ((h.f pos s).1 hF)
theorem Inv.back {ps : List (Int × (Int × Int))} (h : Inv ps F G) (hG : G s = some pos) : F pos = some s := (h.f pos s).2 ((h.g s pos).1 hG)
end
theorem pair_in {cs : List Co} {c i : Nat} (hc : c < cs.length) (hi : i < (cs.getD c c0).sl.length) : ((cs.getD c c0).base + 1 + (i : Int), (cs.getD c c0).sl.getD i z2) ∈ allP cs :=
 mem_allP.2 ⟨_, mem_getD hc, mem_pairs.2 ⟨i, hi, rfl⟩⟩
end Go.Proofs.Ytobaooebjgoaiaa.Fm
namespace Go.Proofs.Ytobaooebjgoaiaa.Fm
open Go.RowKit Go.Maps Mb
set_option linter.unusedVariables false
set_option maxRecDepth 100000
set_option linter.unusedSimpArgs false
section
variable {w w' W : World} {B : Nat}
structure Pst (w : World) (mi ms m : Nat) (ps : List (Int × (Int × Int))) (w0 : World) : Prop where
 ex : ∃ F G, Inv ps F G ∧ MpI w mi m F ∧ MpS w ms m G
 b : Below w0.heap.size w0 w
 ne : mi ≠ ms
 gi : w0.heap.size ≤ mi
 gs : w0.heap.size ≤ ms
theorem Pst.still {mi ms m : Nat} {ps : List (Int × (Int × Int))} {w0 : World} (h : Pst w mi ms m ps w0) (hb : Below w.heap.size w w') : Pst w' mi ms m ps w0 := by
 obtain ⟨F, G, h1, h2, h3⟩ := h.ex
 exact ⟨⟨F, G, h1, h2.still hb, h3.still hb⟩, bstep h.b hb, h.ne, h.gi, h.gs⟩
theorem Pst.mono {mi ms m m' : Nat} {ps : List (Int × (Int × Int))} {w0 : World} (h : Pst w mi ms m ps w0) (hm : m ≤ m') : Pst w mi ms m' ps w0 := by
 obtain ⟨F, G, h1, ⟨D1, h2, h2'⟩, ⟨D2, h3, h3'⟩⟩ := h.ex
 exact ⟨⟨F, G, h1, ⟨D1, h2.mono hm, h2'⟩, ⟨D2, h3.mono hm, h3'⟩⟩, h.b, h.ne, h.gi, h.gs⟩
theorem some_of {α : Type} {o : Option α} {d x : α} (h : o.isSome = true) (hx : o.getD d = x) : o = some x := by
 cases o with
 | none => cases h
 | some y => simp at hx; rw [hx]
theorem none_of {α : Type} {o : Option α} (h : o.isSome = false) : o = none := by
 cases o with
 | none => rfl
 | some y => cases h
theorem op_put {o : Oper} {a : Act} {K : Act → World → Prop} {Q : Exit → Act → World → Prop} (t : TypeId) (m x y : Operand) {mv kv vv : Value} {w2 : World} (hr : (Instr.mapUpdate t mv kv vv).run Try.prog w = .ok () w2) (ho : o.op = .mapUpdate t m x y) (hm : a.eval m = mv) (hx : a.eval x = kv) (hy : a.eval y = vv) (h : K (a.put o.dst undef) w2) : Oper.wp Try.prog o a w K Q := by
 unfold Oper.wp
 simp [execOp, ho, hm, hx, hy, hr, Result.andThen]
 exact h
def PlOut (fs : List Fl) (w : World) (e : Ending) (w' : World) : Prop := Below w.heap.size w w' ∧ ((¬ Con (allP (cos fs)) ∧ e = .returned (.tuple #[.map none, .bool false])) ∨ (Con (allP (cos fs)) ∧ ∃ b m F, e = .returned (.tuple #[.map (some b), .bool true]) ∧ MpI w' b m F ∧ ∀ pos s, F pos = some s ↔ (pos, s) ∈ allP (cos fs)))
set_option maxHeartbeats 8000000 in
theorem placed_any {ao : Option Addr} {cp : Nat} {fs : List Fl} (hr : RdFs w ao fs) (hn : fs.length ≤ 17) (hs : ∀ i, i < fs.length → Snd (fs.getD i fl0).c) : Calls Try.prog 59 #[.slice ao fs.length cp] w (PlOut fs w) := by
 have HR : Hid (RdFs w ao fs) := hr
 have HS : Hid (∀ i, i < fs.length → Snd (fs.getD i fl0).c) := hs
 have hcl := cos_len fs
 generalize hL : fs.length = L at *
 have HLe : Hid (fs.length = L) := hL
 have HcL : Hid ((cos fs).length = L) := hcl
 clear hr hL hs hcl
 generalize hW0 : w.alloc (.map #[] 0) = W0
 generalize hW1 : W0.alloc (.map #[] 0) = W1
 have P0 : Hid (Pst W1 w.heap.size W0.heap.size 0 (psTo (cos fs) 0 0) w) := by
  have hb0 : Below w.heap.size w W0 := hW0 ▸ balloc (Below.refl _ _)
  have hb1 : Below W0.heap.size W0 W1 := hW1 ▸ balloc (Below.refl _ _)
  have hz : W0.heap.size = w.heap.size + 1 := by rw [← hW0]; simp
  have h0 : MpI W0 w.heap.size 0 (fun _ => none) := hW0 ▸ MpI.made w
  have h1 : MpS W1 W0.heap.size 0 (fun _ => none) := hW1 ▸ MpS.made W0
  exact ⟨⟨_, _, by simpa [psTo, allP] using Inv.nil, h0.still hb1, h1⟩, bstep hb0 hb1, by omega, by omega, by omega⟩
 have hmk := run_makeMap (P := Try.prog) 113 w
 have hmk2 := run_makeMap (P := Try.prog) 89 W0
 rw [hW0] at hmk
 rw [hW1] at hmk2
 clear hW0 hW1
 go_enter Try.func59, Try.ntmps59
 go_wp2
 clear hmk hmk2
 generalize hmi : w.heap.size = mi at P0
 generalize hms : W0.heap.size = ms at P0
 have Hmi : Hid (w.heap.size = mi) := hmi
 have Hms : Hid (W0.heap.size = ms) := hms
 try rw [hmi]
 try rw [hms]
 clear hmi hms
 go_loopw [19] (fun i wr => ∃ c : Nat, c ≤ L ∧ i = .int .i64 c ∧ Pst wr mi ms (c * 128) (psTo (cos fs) c 0) w) (fun i _ => L - (intOf i).toNat)
 case atStart => exact ⟨0, Nat.zero_le _, rfl, by simpa using P0.out⟩
 case round =>
  obtain ⟨c, hc, rfl, hp⟩ := hrel
  have HP : Hid (Pst wr mi ms (c * 128) (psTo (cos fs) c 0) w) := hp
  clear hp P0
  by_cases hlt : c < L
  ·have hrw := HR.out.still HP.out.b
   obtain ⟨b, off, rfl, hcc⟩ := hrw.at (i := c) (by rw [HLe.out]; exact hlt)
   have HC : Hid (wr.rangeAt b (off + c * 7) (fs.getD c fl0).cs) := hcc
   have Hf0 : Hid ((fs.getD c fl0).Rd wr) := hrw.el c (by rw [HLe.out]; exact hlt)
   have Hfw : Hid ((fs.getD c fl0).Rd w) := HR.out.el c (by rw [HLe.out]; exact hlt)
   have Hs0 : Hid (Snd (fs.getD c fl0).c) := HS.out c hlt
   have HcA : Hid ((cos fs).getD c c0 = (fs.getD c fl0).c) := cos_at fs c
   clear hrw hcc
   have i1 : (0 : Int) ≤ (c : Int) := Int.natCast_nonneg _
   have i2 : (c : Int) < (L : Int) := by omega
   generalize fs.getD c fl0 = f at *
   have Hl7 : Hid (f.cs.length = 7) := rfl
   go_wp2_with (first
    | (refine load_mid 28 (.tmp 21) HC.out _ Try.underlying28 rfl (by rw [Hl7.out]; exact info_flush) rfl rfl rfl ?_)
    | (refine wl_st 28 (.tmp 7) (.tmp 22) rfl ?_)
    | fail)
   refine wl_store 28 (.tmp 7) (.tmp 22) (L := f.cs) (new_there _ _ _ rfl) info_flush (flcs_one _) rfl rfl rfl (by kernel_rfl) ?_
   simp only [Act.put,gA9,gZ9,gC9,sA9,sZ9,sC9]
   refine ⟨?_⟩
   obtain ⟨hn1, hn2⟩ := newvar wr 28 #[.int .i64 0, .int .i64 0, .int .i64 0, .int .i64 0, .int .i64 0, .slice none 0 0, .slice none 0 0] f.cs rfl
   have HP2 : Hid (Pst ((wr.alloc (.cells #[.int .i64 0, .int .i64 0, .int .i64 0, .int .i64 0, .int .i64 0, .slice none 0 0, .slice none 0 0] 28)).setCells wr.heap.size 0 f.cs) mi ms (c * 128) (psTo (cos fs) c 0) w) := HP.out.still hn1
   have HC2 : Hid (((wr.alloc (.cells #[.int .i64 0, .int .i64 0, .int .i64 0, .int .i64 0, .int .i64 0, .slice none 0 0, .slice none 0 0] 28)).setCells wr.heap.size 0 f.cs).heap[wr.heap.size]? = some (.cells f.cs.toArray 28 (0, 0))) := hn2
   have Hf : Hid (f.Rd ((wr.alloc (.cells #[.int .i64 0, .int .i64 0, .int .i64 0, .int .i64 0, .int .i64 0, .slice none 0 0, .slice none 0 0] 28)).setCells wr.heap.size 0 f.cs)) := Hf0.out.still hn1
   clear hn1 hn2 HP HC Hf0
   generalize (wr.alloc (.cells #[.int .i64 0, .int .i64 0, .int .i64 0, .int .i64 0, .int .i64 0, .slice none 0 0, .slice none 0 0] 28)).setCells wr.heap.size 0 f.cs = V at *
   generalize hvb : wr.heap.size = vb at *
   clear hvb
   have q5 : V.cell? ⟨vb, 5, none⟩ = some (.slice f.sa f.c.sl.length f.sc) := blk_cell HC2.out 5
   generalize hsn : f.c.sl.length = sn at q5
   have Hsn : Hid (f.c.sl.length = sn) := hsn
   have h128 : sn ≤ 128 := by rw [← hsn]; exact Hs0.out.s128
   clear hsn
   go_wp2
   clear q5
   go_loopw [26] (fun i wv => ∃ j : Nat, j ≤ sn ∧ i = .int .i64 j ∧ Pst wv mi ms (c * 128 + j) (psTo (cos fs) c j) w ∧ wv.heap[vb]? = some (.cells f.cs.toArray 28 (0, 0))) (fun i _ => sn - (intOf i).toNat)
   case atStart => exact ⟨0, Nat.zero_le _, rfl, by simpa using HP2.out, HC2.out⟩
   case round =>
    obtain ⟨j, hj, rfl, hp, hbk⟩ := hrel
    have HP : Hid (Pst wr mi ms (c * 128 + j) (psTo (cos fs) c j) w) := hp
    have HC : Hid (wr.heap[vb]? = some (.cells f.cs.toArray 28 (0, 0))) := hbk
    clear hp hbk HP2 HC2
    by_cases hjl : j < sn
    ·obtain ⟨b2, off2, hsa, hcc, _, _⟩ := (Hfw.out.s.still HP.out.b).at (i := j) (by rw [Hsn.out]; exact hjl)
     have HD : Hid (wr.rangeAt b2 (off2 + j * 2) (slotV (f.c.sl.getD j z2))) := hcc
     clear hcc
     have Hrg : Hid (i64B (f.c.sl.getD j z2).1 ∧ i64B (f.c.sl.getD j z2).2) := Hfw.out.r j (by rw [Hsn.out]; exact hjl)
     have Hin : Hid ((f.c.base + 1 + (j : Int), f.c.sl.getD j z2) ∈ allP (cos fs)) := by have := pair_in (cs := cos fs) (c := c) (i := j) (by rw [HcL.out]; exact hlt) (by rw [HcA.out, Hsn.out]; exact hjl); rw [HcA.out] at this; exact this
     have Hnx : Hid (psTo (cos fs) c (j + 1) = psTo (cos fs) c j ++ [(f.c.base + 1 + (j : Int), f.c.sl.getD j z2)]) := by have := psTo_next (cs := cos fs) (c := c) (i := j) (by rw [HcA.out, Hsn.out]; exact hjl); rw [HcA.out] at this; exact this
     have hbM := Hs0.out.bM
     have hb0 := Hs0.out.b0
     rw [Hsn.out] at hbM
     generalize f.c.sl.getD j z2 = s at *
     have j1 : (0 : Int) ≤ (j : Int) := Int.natCast_nonneg _
     have j2 : (j : Int) < (sn : Int) := by omega
     try rw [hsa]
     go_wp2_with (first
      | (refine load_mid 76 (.tmp 29) HD.out _ Try.underlying76 rfl info_slot rfl rfl rfl ?_)
      | (refine wl_st 76 (.tmp 9) (.tmp 30) rfl ?_)
      | fail)
     refine wl_store 76 (.tmp 9) (.tmp 30) (L := slotV s) (new_there _ _ _ rfl) info_slot (slotV_one _) rfl rfl rfl (by kernel_rfl) ?_
     simp only [Act.put,gA9,gZ9,gC9,sA9,sZ9,sC9]
     refine ⟨?_⟩
     obtain ⟨hn1, hn2⟩ := newvar wr 76 #[.int .i64 0, .int .i64 0] (slotV s) rfl
     have HPn : Hid (Pst ((wr.alloc (.cells #[.int .i64 0, .int .i64 0] 76)).setCells wr.heap.size 0 (slotV s)) mi ms (c * 128 + j) (psTo (cos fs) c j) w) := HP.out.still hn1
     have HCn : Hid (((wr.alloc (.cells #[.int .i64 0, .int .i64 0] 76)).setCells wr.heap.size 0 (slotV s)).heap[vb]? = some (.cells f.cs.toArray 28 (0, 0))) := (hn1.block _ (lt_heap HC.out)).trans HC.out
     have Hv9 : Hid (((wr.alloc (.cells #[.int .i64 0, .int .i64 0] 76)).setCells wr.heap.size 0 (slotV s)).heap[wr.heap.size]? = some (.cells (slotV s).toArray 76 (0, 0))) := hn2
     clear hn1 hn2 HP HC
     generalize (wr.alloc (.cells #[.int .i64 0, .int .i64 0] 76)).setCells wr.heap.size 0 (slotV s) = V1 at *
     generalize hvb : wr.heap.size = v9 at *
     clear hvb
     have HP := HPn
     clear HPn
     have HC := HCn
     clear HCn
     clear HD
     have q4 : V1.cell? ⟨vb, 4, none⟩ = some (.int .i64 f.c.base) := blk_cell HC.out 4
     generalize hbs : f.c.base = bs at *
     clear hbs
     go_wp2_with (first | (refine wl_at 31 rfl ?_) | fail)
     refine wT9 ?_
     simp only [Act.put,gA9,gZ9,gC9,sA9,sZ9,sC9]
     refine wT9 ?_
     simp only [Act.put,gA9,gZ9,gC9,sA9,sZ9,sC9]
     refine wl_take (v := .int .i64 (bs + 1)) (by kernel_rfl) (by go_simp; exact wrap_id (by omega) (by omega)) ?_
     simp only [Act.put,gA9,gZ9,gC9,sA9,sZ9,sC9]
     refine wT9 ?_
     simp only [Act.put,gA9,gZ9,gC9,sA9,sZ9,sC9]
     refine wl_take (v := .int .i64 (bs + 1 + (j : Int))) (by kernel_rfl) (by go_simp; exact wrap_id (by omega) (by omega)) ?_
     simp only [Act.put,gA9,gZ9,gC9,sA9,sZ9,sC9]
     refine wT9 ?_
     simp only [Act.put,gA9,gZ9,gC9,sA9,sZ9,sC9]
     refine ⟨?_⟩
     clear q4
     have Hpr : Hid (i64B (bs + 1 + (j : Int))) := ⟨by omega, by omega⟩
     generalize hpos : bs + 1 + (j : Int) = pos at *
     clear hpos
     obtain ⟨F, G, hI, hF, hG⟩ := HP.out.ex
     have HI : Hid (Inv (psTo (cos fs) c j) F G) := hI
     have HF : Hid (MpI V1 mi (c * 128 + j) F) := hF
     have HG : Hid (MpS V1 ms (c * 128 + j) G) := hG
     clear hI hF hG
     have HL : Hid ((Instr.lookup 113 (.map (some mi)) (.int .i64 pos) true).run Try.prog V1 = .ok (.tuple #[.agg (slotV ((F pos).getD z2)).toArray, .bool (F pos).isSome]) V1) := HF.out.look Hpr.out
     generalize ho : (F pos).getD z2 = o at HL
     have Ho : Hid ((F pos).getD z2 = o) := ho
     clear ho
     go_wp2_with (first | (refine wl_at 39 rfl ?_) | fail)
     refine wl_look 113 (.tmp 37) (.tmp 38) true HL.out rfl rfl rfl (by kernel_rfl) ?_
     simp only [Act.put,gA9,gZ9,gC9,sA9,sZ9,sC9]
     refine ⟨?_⟩
     clear HL
     generalize hk1 : (F pos).isSome = kn
     have Hk1 : Hid ((F pos).isSome = kn) := hk1
     clear hk1
     go_wp2_with (first | (refine wl_st 76 (.tmp 11) (.tmp 40) rfl ?_) | fail)
     refine wl_store 76 (.tmp 11) (.tmp 40) (L := slotV o) (new_there _ _ _ rfl) info_slot (slotV_one _) rfl rfl rfl (by kernel_rfl) ?_
     simp only [Act.put,gA9,gZ9,gC9,sA9,sZ9,sC9]
     refine ⟨?_⟩
     obtain ⟨hn1, hn2⟩ := newvar V1 76 #[.int .i64 0, .int .i64 0] (slotV o) rfl
     have HPn : Hid (Pst ((V1.alloc (.cells #[.int .i64 0, .int .i64 0] 76)).setCells V1.heap.size 0 (slotV o)) mi ms (c * 128 + j) (psTo (cos fs) c j) w) := HP.out.still hn1
     have HCn : Hid (((V1.alloc (.cells #[.int .i64 0, .int .i64 0] 76)).setCells V1.heap.size 0 (slotV o)).heap[vb]? = some (.cells f.cs.toArray 28 (0, 0))) := (hn1.block _ (lt_heap HC.out)).trans HC.out
     have Hv9n : Hid (((V1.alloc (.cells #[.int .i64 0, .int .i64 0] 76)).setCells V1.heap.size 0 (slotV o)).heap[v9]? = some (.cells (slotV s).toArray 76 (0, 0))) := (hn1.block _ (lt_heap Hv9.out)).trans Hv9.out
     have HFn : Hid (MpI ((V1.alloc (.cells #[.int .i64 0, .int .i64 0] 76)).setCells V1.heap.size 0 (slotV o)) mi (c * 128 + j) F) := HF.out.still hn1
     have HGn : Hid (MpS ((V1.alloc (.cells #[.int .i64 0, .int .i64 0] 76)).setCells V1.heap.size 0 (slotV o)) ms (c * 128 + j) G) := HG.out.still hn1
     have Hv11 : Hid (((V1.alloc (.cells #[.int .i64 0, .int .i64 0] 76)).setCells V1.heap.size 0 (slotV o)).heap[V1.heap.size]? = some (.cells (slotV o).toArray 76 (0, 0))) := hn2
     clear hn1 hn2 HP HC Hv9 HF HG
     generalize (V1.alloc (.cells #[.int .i64 0, .int .i64 0] 76)).setCells V1.heap.size 0 (slotV o) = V2 at *
     generalize hvb : V1.heap.size = v11 at *
     clear hvb
     have HP := HPn
     clear HPn
     have HC := HCn
     clear HCn
     have Hv9 := Hv9n
     clear Hv9n
     have HF := HFn
     clear HFn
     have HG := HGn
     clear HGn
     have HL : Hid ((Instr.lookup 89 (.map (some ms)) (.agg (slotV s).toArray) true).run Try.prog V2 = .ok (.tuple #[.int .i64 ((G s).getD 0), .bool (G s).isSome]) V2) := HG.out.look Hrg.out.1 Hrg.out.2
     generalize hq : (G s).getD 0 = q at HL
     have Hq : Hid ((G s).getD 0 = q) := hq
     clear hq
     generalize hk2 : (G s).isSome = nm at HL
     have Hk2 : Hid ((G s).isSome = nm) := hk2
     clear hk2
     go_wp2_with (first | (refine wl_at 44 rfl ?_) | fail)
     refine wl_load 76 (.tmp 9) (blk_range Hv9.out) _ Try.underlying76 rfl info_slot rfl rfl (by kernel_rfl) ?_
     simp only [Act.put,gA9,gZ9,gC9,sA9,sZ9,sC9]
     refine wl_look 89 (.tmp 43) (.tmp 44) true HL.out rfl rfl rfl (by kernel_rfl) ?_
     simp only [Act.put,gA9,gZ9,gC9,sA9,sZ9,sC9]
     clear HL
     refine wT9 ?_
     simp only [Act.put,gA9,gZ9,gC9,sA9,sZ9,sC9]
     refine wT9 ?_
     simp only [Act.put,gA9,gZ9,gC9,sA9,sZ9,sC9]
     refine wT9 ?_
     simp only [Act.put,gA9,gZ9,gC9,sA9,sZ9,sC9]
     refine wT9 ?_
     simp only [Act.put,gA9,gZ9,gC9,sA9,sZ9,sC9]
     refine wT9 ?_
     simp only [Act.put,gA9,gZ9,gC9,sA9,sZ9,sC9]
     refine ⟨?_⟩
     cases kn with
     | true =>
      have Hos : Hid (F pos = some o) := some_of Hk1.out Ho.out
      by_cases hos : o = s
      ·have HE : Hid (∀ W, (Op.equalIn 10000 76 (.agg (slotV o).toArray) (.agg (slotV s).toArray)).run Try.prog W = .ok true W) := fun W => by rw [eq_slot, decide_eq_true hos]
       have hgp : G s = some pos := HI.out.both (by rw [← hos]; exact Hos.out)
       obtain rfl : nm = true := by rw [← Hk2.out, hgp]; rfl
       have hqp : q = pos := by rw [← Hq.out, hgp]; rfl
       have HI2 : Hid (Inv (psTo (cos fs) c j ++ [(pos, s)]) (updO F pos s) (updO G s pos)) := HI.out.put (fun t ht => by rw [Hos.out] at ht; cases ht; exact hos) (fun p hp => by rw [hgp] at hp; cases hp; rfl)
       clear hgp hos
       go_wp2_with (first | (refine wl_at 50 rfl ?_) | fail)
       refine wl_load 76 (.tmp 11) (blk_range Hv11.out) _ Try.underlying76 rfl info_slot rfl rfl (by kernel_rfl) ?_
       simp only [Act.put,gA9,gZ9,gC9,sA9,sZ9,sC9]
       refine wl_load 76 (.tmp 9) (blk_range Hv9.out) _ Try.underlying76 rfl info_slot rfl rfl (by kernel_rfl) ?_
       simp only [Act.put,gA9,gZ9,gC9,sA9,sZ9,sC9]
       refine wl_take (v := .bool false) (by kernel_rfl) (run_neqop 76 (.tmp 50) (.tmp 51) 76 rfl _ _ rfl rfl guard_slot true (HE.out _)) ?_
       simp only [Act.put,gA9,gZ9,gC9,sA9,sZ9,sC9]
       refine wT9 ?_
       simp only [Act.put,gA9,gZ9,gC9,sA9,sZ9,sC9]
       refine wT9 ?_
       simp only [Act.put,gA9,gZ9,gC9,sA9,sZ9,sC9]
       refine wT9 ?_
       simp only [Act.put,gA9,gZ9,gC9,sA9,sZ9,sC9]
       refine wT9 ?_
       simp only [Act.put,gA9,gZ9,gC9,sA9,sZ9,sC9]
       refine wT9 ?_
       simp only [Act.put,gA9,gZ9,gC9,sA9,sZ9,sC9]
       refine wT9 ?_
       simp only [Act.put,gA9,gZ9,gC9,sA9,sZ9,sC9]
       refine wl_take (v := .bool false) (by kernel_rfl) (by go_simp <;> first | omega | simp_all) ?_
       simp only [Act.put,gA9,gZ9,gC9,sA9,sZ9,sC9]
       refine wT9 ?_
       simp only [Act.put,gA9,gZ9,gC9,sA9,sZ9,sC9]
       refine wT9 ?_
       simp only [Act.put,gA9,gZ9,gC9,sA9,sZ9,sC9]
       refine ⟨?_⟩
       obtain ⟨V3, hput, hF3, hK3⟩ := HF.out.still ((Below.refl _ _).drew) |>.put (by omega) Hpr.out s
       have hG2 : MpS V3 ms (c * 128 + j) G := (HG.out.still ((Below.refl _ _).drew)).keep hK3 (fun e => HP.out.ne e.symm)
       obtain ⟨V4, hput2, hG4, hK4⟩ := hG2.put (by omega) Hrg.out.1 Hrg.out.2 Hpr.out
       have HF4 : Hid (MpI V4 mi (c * 128 + j + 1) (updO F pos s)) := hF3.keep hK4 (fun e => HP.out.ne e)
       have HG4 : Hid (MpS V4 ms (c * 128 + j + 1) (updO G s pos)) := hG4
       have hv9n : ¬ v9 = mi := fun e => by obtain ⟨D, ⟨es, cl, h1, _⟩, _⟩ := HF.out; have h2 := Hv9.out; rw [e, h1] at h2; cases h2
       have hv9m : ¬ v9 = ms := fun e => by obtain ⟨D, ⟨es, cl, h1, _⟩, _⟩ := HG.out; have h2 := Hv9.out; rw [e, h1] at h2; cases h2
       have hvbn : ¬ vb = mi := fun e => by obtain ⟨D, ⟨es, cl, h1, _⟩, _⟩ := HF.out; have h2 := HC.out; rw [e, h1] at h2; cases h2
       have hvbm : ¬ vb = ms := fun e => by obtain ⟨D, ⟨es, cl, h1, _⟩, _⟩ := HG.out; have h2 := HC.out; rw [e, h1] at h2; cases h2
       have hv93 : V3.heap[v9]? = some (.cells (slotV s).toArray 76 (0, 0)) := hK3.obj Hv9.out hv9n
       have hv94 : V4.heap[v9]? = some (.cells (slotV s).toArray 76 (0, 0)) := hK4.obj hv93 hv9m
       have HC4 : Hid (V4.heap[vb]? = some (.cells f.cs.toArray 28 (0, 0))) := hK4.obj (hK3.obj HC.out hvbn) hvbm
       have HB4 : Hid (Below w.heap.size w V4) := (HP.out.b.drew.trans (hK3.below HP.out.b.size (fun k hk e => by have := HP.out.gi; omega))).trans (hK4.below (Nat.le_trans HP.out.b.size hK3.size) (fun k hk e => by have := HP.out.gs; omega))
       have r2 := blk_range (w := V2.drew) Hv9.out
       have r3 := blk_range hv93
       have r4 := blk_range hv94
       clear hv93 hv94 hK3 hK4 hF3 hG4 hG2 hv9n hv9m hvbn hvbm
       go_wp2_with (fail)
       refine wp_region_held_drew (S := (fun w' => w'.rangeAt v9 0 (slotV s))) (by kernel_rfl) r2 (fun hHeld => ?_)
       simp only [Act.put, List.size_toArray, List.length_cons, List.length_nil, Nat.zero_add]
       refine wG9 0 (.map (some mi)) rfl hHeld ?_
       simp only [Act.put,gA9,gZ9,gC9,sA9,sZ9,sC9]
       refine wG9 1 (.int .i64 pos) rfl hHeld ?_
       simp only [Act.put,gA9,gZ9,gC9,sA9,sZ9,sC9]
       refine wG9 2 (.map (some ms)) rfl hHeld ?_
       simp only [Act.put,gA9,gZ9,gC9,sA9,sZ9,sC9]
       refine wpAnyH_take (i := 3) (v := .agg (slotV s).toArray) rfl (by kernel_rfl) (by kernel_rfl) (by kernel_rfl) (fun _ _ _ h => h) (yieldsIf_load_mid (by rfl) 76 (.tmp 9) rfl v9 0 (by rfl) (slotV s) _ (fun w' hS => hS) Try.underlying76 rfl info_slot) hHeld ?_
       simp only [Act.put,gA9,gZ9,gC9,sA9,sZ9,sC9]
       refine wpAnyH_take (i := 4) (v := .agg (slotV s).toArray) rfl (by kernel_rfl) (by kernel_rfl) (by kernel_rfl) (fun _ _ _ h => h) (yieldsIf_load_mid (by rfl) 76 (.tmp 9) rfl v9 0 (by rfl) (slotV s) _ (fun w' hS => hS) Try.underlying76 rfl info_slot) hHeld ?_
       simp only [Act.put,gA9,gZ9,gC9,sA9,sZ9,sC9]
       refine wG9 5 (.int .i64 pos) rfl hHeld ?_
       simp only [Act.put,gA9,gZ9,gC9,sA9,sZ9,sC9]
       refine wpAnyH_ready (rs := [6]) (by kernel_rfl) (by simp) ?_
       refine AllReadyH.cons rfl (fun K hK => ?_) AllReadyH.nil
       rw [if_pos (by kernel_rfl)]
       refine op_put 113 (.tmp 62) (.tmp 63) (.tmp 66) hput rfl rfl rfl rfl ?_
       refine hK.out _ _ r3 (fun hHeld => ?_)
       clear hK K
       try (simp only [Act.put,gA9,gZ9,gC9,sA9,sZ9,sC9])
       refine wpAnyH_ready (rs := [7]) (by kernel_rfl) (by simp) ?_
       refine AllReadyH.cons rfl (fun K hK => ?_) AllReadyH.nil
       rw [if_pos (by kernel_rfl)]
       refine op_put 89 (.tmp 64) (.tmp 65) (.tmp 67) hput2 rfl rfl rfl rfl ?_
       refine hK.out _ _ r4 (fun hHeld => ?_)
       clear hK K
       try (simp only [Act.put,gA9,gZ9,gC9,sA9,sZ9,sC9])
       refine wpAnyH_done (by kernel_rfl) ?_ _
       clear hHeld r2 r3 r4 hput hput2
       go_wp2
       exact ⟨⟨j + 1, by omega, by go_num, ⟨⟨_, _, by rw [Hnx.out]; exact HI2.out, HF4.out, HG4.out⟩, HB4.out, HP.out.ne, HP.out.gi, HP.out.gs⟩, HC4.out⟩, by simp [intOf]; omega⟩
      ·have HE : Hid (∀ W, (Op.equalIn 10000 76 (.agg (slotV o).toArray) (.agg (slotV s).toArray)).run Try.prog W = .ok false W) := fun W => by rw [eq_slot, decide_eq_false hos]
       have Hbad : Hid (¬ Con (allP (cos fs))) := HI.out.bad1 (by rw [HcL.out]; exact hlt) Hin.out Hos.out hos
       clear hos
       go_wp2_with (first | (refine wl_at 50 rfl ?_) | fail)
       refine wl_load 76 (.tmp 11) (blk_range Hv11.out) _ Try.underlying76 rfl info_slot rfl rfl (by kernel_rfl) ?_
       simp only [Act.put,gA9,gZ9,gC9,sA9,sZ9,sC9]
       refine wl_load 76 (.tmp 9) (blk_range Hv9.out) _ Try.underlying76 rfl info_slot rfl rfl (by kernel_rfl) ?_
       simp only [Act.put,gA9,gZ9,gC9,sA9,sZ9,sC9]
       refine wl_take (v := .bool true) (by kernel_rfl) (run_neqop 76 (.tmp 50) (.tmp 51) 76 rfl _ _ rfl rfl guard_slot false (HE.out _)) ?_
       simp only [Act.put,gA9,gZ9,gC9,sA9,sZ9,sC9]
       refine wT9 ?_
       simp only [Act.put,gA9,gZ9,gC9,sA9,sZ9,sC9]
       refine wT9 ?_
       simp only [Act.put,gA9,gZ9,gC9,sA9,sZ9,sC9]
       refine wS9' ?_
       simp only [Act.put,gA9,gZ9,gC9,sA9,sZ9,sC9]
       refine wS9' ?_
       simp only [Act.put,gA9,gZ9,gC9,sA9,sZ9,sC9]
       refine wS9' ?_
       simp only [Act.put,gA9,gZ9,gC9,sA9,sZ9,sC9]
       refine wS9' ?_
       simp only [Act.put,gA9,gZ9,gC9,sA9,sZ9,sC9]
       refine wS9' ?_
       simp only [Act.put,gA9,gZ9,gC9,sA9,sZ9,sC9]
       refine wS9' ?_
       simp only [Act.put,gA9,gZ9,gC9,sA9,sZ9,sC9]
       refine wT9 ?_
       simp only [Act.put,gA9,gZ9,gC9,sA9,sZ9,sC9]
       refine ⟨?_⟩
       go_wp2
       go_ret2
       exact ⟨HP.out.b, .inl ⟨Hbad.out, rfl⟩⟩
     | false =>
      have Hos : Hid (F pos = none) := none_of Hk1.out
      cases nm with
      | true =>
       have hgq : G s = some q := some_of Hk2.out Hq.out
       have hqp : q ≠ pos := fun e => by rw [e] at hgq; have := HI.out.back hgq; rw [Hos.out] at this; cases this
       have Hbad : Hid (¬ Con (allP (cos fs))) := HI.out.bad2 (by rw [HcL.out]; exact hlt) Hin.out hgq hqp
       clear hgq
       go_wp2_with (first | (refine wl_at 50 rfl ?_) | fail)
       refine wS9' ?_
       simp only [Act.put,gA9,gZ9,gC9,sA9,sZ9,sC9]
       refine wS9' ?_
       simp only [Act.put,gA9,gZ9,gC9,sA9,sZ9,sC9]
       refine wS9' ?_
       simp only [Act.put,gA9,gZ9,gC9,sA9,sZ9,sC9]
       refine wT9 ?_
       simp only [Act.put,gA9,gZ9,gC9,sA9,sZ9,sC9]
       refine wT9 ?_
       simp only [Act.put,gA9,gZ9,gC9,sA9,sZ9,sC9]
       refine wT9 ?_
       simp only [Act.put,gA9,gZ9,gC9,sA9,sZ9,sC9]
       refine wT9 ?_
       simp only [Act.put,gA9,gZ9,gC9,sA9,sZ9,sC9]
       refine wT9 ?_
       simp only [Act.put,gA9,gZ9,gC9,sA9,sZ9,sC9]
       refine wT9 ?_
       simp only [Act.put,gA9,gZ9,gC9,sA9,sZ9,sC9]
       refine wl_take (v := .bool true) (by kernel_rfl) (by go_simp <;> first | omega | simp_all) ?_
       simp only [Act.put,gA9,gZ9,gC9,sA9,sZ9,sC9]
       refine wT9 ?_
       simp only [Act.put,gA9,gZ9,gC9,sA9,sZ9,sC9]
       refine wT9 ?_
       simp only [Act.put,gA9,gZ9,gC9,sA9,sZ9,sC9]
       refine ⟨?_⟩
       go_wp2
       go_ret2
       exact ⟨HP.out.b, .inl ⟨Hbad.out, rfl⟩⟩
      | false =>
       have HI2 : Hid (Inv (psTo (cos fs) c j ++ [(pos, s)]) (updO F pos s) (updO G s pos)) := HI.out.put (fun t ht => by rw [Hos.out] at ht; cases ht) (fun p hp => by rw [none_of Hk2.out] at hp; cases hp)
       go_wp2_with (first | (refine wl_at 50 rfl ?_) | fail)
       refine wS9' ?_
       simp only [Act.put,gA9,gZ9,gC9,sA9,sZ9,sC9]
       refine wS9' ?_
       simp only [Act.put,gA9,gZ9,gC9,sA9,sZ9,sC9]
       refine wS9' ?_
       simp only [Act.put,gA9,gZ9,gC9,sA9,sZ9,sC9]
       refine wT9 ?_
       simp only [Act.put,gA9,gZ9,gC9,sA9,sZ9,sC9]
       refine wT9 ?_
       simp only [Act.put,gA9,gZ9,gC9,sA9,sZ9,sC9]
       refine wT9 ?_
       simp only [Act.put,gA9,gZ9,gC9,sA9,sZ9,sC9]
       refine wT9 ?_
       simp only [Act.put,gA9,gZ9,gC9,sA9,sZ9,sC9]
       refine wS9' ?_
       simp only [Act.put,gA9,gZ9,gC9,sA9,sZ9,sC9]
       refine wS9' ?_
       simp only [Act.put,gA9,gZ9,gC9,sA9,sZ9,sC9]
       refine wS9' ?_
       simp only [Act.put,gA9,gZ9,gC9,sA9,sZ9,sC9]
       refine wT9 ?_
       simp only [Act.put,gA9,gZ9,gC9,sA9,sZ9,sC9]
       refine wT9 ?_
       simp only [Act.put,gA9,gZ9,gC9,sA9,sZ9,sC9]
       refine ⟨?_⟩
       obtain ⟨V3, hput, hF3, hK3⟩ := HF.out.still ((Below.refl _ _).drew) |>.put (by omega) Hpr.out s
       have hG2 : MpS V3 ms (c * 128 + j) G := (HG.out.still ((Below.refl _ _).drew)).keep hK3 (fun e => HP.out.ne e.symm)
       obtain ⟨V4, hput2, hG4, hK4⟩ := hG2.put (by omega) Hrg.out.1 Hrg.out.2 Hpr.out
       have HF4 : Hid (MpI V4 mi (c * 128 + j + 1) (updO F pos s)) := hF3.keep hK4 (fun e => HP.out.ne e)
       have HG4 : Hid (MpS V4 ms (c * 128 + j + 1) (updO G s pos)) := hG4
       have hv9n : ¬ v9 = mi := fun e => by obtain ⟨D, ⟨es, cl, h1, _⟩, _⟩ := HF.out; have h2 := Hv9.out; rw [e, h1] at h2; cases h2
       have hv9m : ¬ v9 = ms := fun e => by obtain ⟨D, ⟨es, cl, h1, _⟩, _⟩ := HG.out; have h2 := Hv9.out; rw [e, h1] at h2; cases h2
       have hvbn : ¬ vb = mi := fun e => by obtain ⟨D, ⟨es, cl, h1, _⟩, _⟩ := HF.out; have h2 := HC.out; rw [e, h1] at h2; cases h2
       have hvbm : ¬ vb = ms := fun e => by obtain ⟨D, ⟨es, cl, h1, _⟩, _⟩ := HG.out; have h2 := HC.out; rw [e, h1] at h2; cases h2
       have hv93 : V3.heap[v9]? = some (.cells (slotV s).toArray 76 (0, 0)) := hK3.obj Hv9.out hv9n
       have hv94 : V4.heap[v9]? = some (.cells (slotV s).toArray 76 (0, 0)) := hK4.obj hv93 hv9m
       have HC4 : Hid (V4.heap[vb]? = some (.cells f.cs.toArray 28 (0, 0))) := hK4.obj (hK3.obj HC.out hvbn) hvbm
       have HB4 : Hid (Below w.heap.size w V4) := (HP.out.b.drew.trans (hK3.below HP.out.b.size (fun k hk e => by have := HP.out.gi; omega))).trans (hK4.below (Nat.le_trans HP.out.b.size hK3.size) (fun k hk e => by have := HP.out.gs; omega))
       have r2 := blk_range (w := V2.drew) Hv9.out
       have r3 := blk_range hv93
       have r4 := blk_range hv94
       clear hv93 hv94 hK3 hK4 hF3 hG4 hG2 hv9n hv9m hvbn hvbm
       go_wp2_with (fail)
       refine wp_region_held_drew (S := (fun w' => w'.rangeAt v9 0 (slotV s))) (by kernel_rfl) r2 (fun hHeld => ?_)
       simp only [Act.put, List.size_toArray, List.length_cons, List.length_nil, Nat.zero_add]
       refine wG9 0 (.map (some mi)) rfl hHeld ?_
       simp only [Act.put,gA9,gZ9,gC9,sA9,sZ9,sC9]
       refine wG9 1 (.int .i64 pos) rfl hHeld ?_
       simp only [Act.put,gA9,gZ9,gC9,sA9,sZ9,sC9]
       refine wG9 2 (.map (some ms)) rfl hHeld ?_
       simp only [Act.put,gA9,gZ9,gC9,sA9,sZ9,sC9]
       refine wpAnyH_take (i := 3) (v := .agg (slotV s).toArray) rfl (by kernel_rfl) (by kernel_rfl) (by kernel_rfl) (fun _ _ _ h => h) (yieldsIf_load_mid (by rfl) 76 (.tmp 9) rfl v9 0 (by rfl) (slotV s) _ (fun w' hS => hS) Try.underlying76 rfl info_slot) hHeld ?_
       simp only [Act.put,gA9,gZ9,gC9,sA9,sZ9,sC9]
       refine wpAnyH_take (i := 4) (v := .agg (slotV s).toArray) rfl (by kernel_rfl) (by kernel_rfl) (by kernel_rfl) (fun _ _ _ h => h) (yieldsIf_load_mid (by rfl) 76 (.tmp 9) rfl v9 0 (by rfl) (slotV s) _ (fun w' hS => hS) Try.underlying76 rfl info_slot) hHeld ?_
       simp only [Act.put,gA9,gZ9,gC9,sA9,sZ9,sC9]
       refine wG9 5 (.int .i64 pos) rfl hHeld ?_
       simp only [Act.put,gA9,gZ9,gC9,sA9,sZ9,sC9]
       refine wpAnyH_ready (rs := [6]) (by kernel_rfl) (by simp) ?_
       refine AllReadyH.cons rfl (fun K hK => ?_) AllReadyH.nil
       rw [if_pos (by kernel_rfl)]
       refine op_put 113 (.tmp 62) (.tmp 63) (.tmp 66) hput rfl rfl rfl rfl ?_
       refine hK.out _ _ r3 (fun hHeld => ?_)
       clear hK K
       try (simp only [Act.put,gA9,gZ9,gC9,sA9,sZ9,sC9])
       refine wpAnyH_ready (rs := [7]) (by kernel_rfl) (by simp) ?_
       refine AllReadyH.cons rfl (fun K hK => ?_) AllReadyH.nil
       rw [if_pos (by kernel_rfl)]
       refine op_put 89 (.tmp 64) (.tmp 65) (.tmp 67) hput2 rfl rfl rfl rfl ?_
       refine hK.out _ _ r4 (fun hHeld => ?_)
       clear hK K
       try (simp only [Act.put,gA9,gZ9,gC9,sA9,sZ9,sC9])
       refine wpAnyH_done (by kernel_rfl) ?_ _
       clear hHeld r2 r3 r4 hput hput2
       go_wp2
       exact ⟨⟨j + 1, by omega, by go_num, ⟨⟨_, _, by rw [Hnx.out]; exact HI2.out, HF4.out, HG4.out⟩, HB4.out, HP.out.ne, HP.out.gi, HP.out.gs⟩, HC4.out⟩, by simp [intOf]; omega⟩
    ·obtain rfl : j = sn := by omega
     have Hrow : Hid (psTo (cos fs) c j = psTo (cos fs) (c + 1) 0) := by have := psTo_row (cs := cos fs) (c := c) (by rw [HcL.out]; exact hlt); rw [HcA.out, Hsn.out] at this; exact this
     go_wp2
     exact ⟨⟨c + 1, by omega, by go_num, by have := HP.out.mono (m' := (c + 1) * 128) (by omega); rw [Hrow.out] at this; exact this⟩, by simp [intOf]; omega⟩
  ·obtain rfl : c = L := by omega
   go_wp2
   go_ret2
   obtain ⟨F, G, hI, hF, hG⟩ := HP.out.ex
   rw [show psTo (cos fs) c 0 = allP (cos fs) by rw [← HcL.out]; exact psTo_all _] at hI
   exact ⟨HP.out.b, .inr ⟨hI.con, mi, _, F, rfl, hF, hI.f⟩⟩
end
end Go.Proofs.Ytobaooebjgoaiaa.Fm
