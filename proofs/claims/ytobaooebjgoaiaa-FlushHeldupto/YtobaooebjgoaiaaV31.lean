import Derived.Test.YtobaooebjgoaiaaV30
import Derived.Test.YtobaooebjgoaiaaV28
import Derived.Test.YtobaooebjgoaiaaV29
import Derived.Laws.EntriesVeiled
namespace Go.Proofs.Ytobaooebjgoaiaa.Fm
open Go.RowKit Go.Maps Mb
set_option linter.unusedVariables false
set_option maxRecDepth 100000
set_option linter.unusedSimpArgs false
section
variable {w w' W : World} {B : Nat}
def byts (bs : List Int) : List Value := bs.map (Value.int .u8)
theorem byts_len (bs : List Int) : (byts bs).length = bs.length := by simp [byts]
theorem byts_one (bs : List Int) : ∀ u ∈ byts bs, u.oneCell' = true := by
 intro u hu
 obtain ⟨_, _, rfl⟩ := List.mem_map.1 hu
 rfl
theorem byts_at (bs : List Int) (i : Nat) (h : i < bs.length) : (byts bs)[i]? = some (.int .u8 (bs.getD i 0)) := by simp [byts, List.getD, h]
theorem rdB_news {ao : Option Addr} {bs : List Int} (h : RdB w ao bs) : ∀ ad, ao = some ad → ∀ j u, (byts bs)[j]? = some u → w.cell? (ad.add j) = some u := fun ad he j u hu => by
 have hj : j < bs.length := by have := (List.getElem?_eq_some_iff.1 hu).1; rwa [byts_len] at this
 rcases h with h | ⟨b, off, h1, h2⟩
 ·omega
 ·rw [h1] at he
  cases he
  rw [Addr.add_mid, h2 j (by omega)]
  rw [byts_at bs j hj] at hu
  exact hu
theorem byte_info : ∃ i : TypeInfo, Try.prog.info? 5 = some i ∧ i.zero = some (.int .u8 0) ∧ i.size = 1 ∧ i.bytes = 1 := by
 have h : (Try.prog.info? 5).map (fun i => (i.zero, i.size, i.bytes)) = some (some (.int .u8 0), 1, 1) := by kernel_rfl
 cases hq : Try.prog.info? 5 with
 | none => rw [hq] at h; cases h
 | some i => rw [hq] at h; simp at h; exact ⟨i, rfl, h.1, h.2.1, h.2.2⟩
set_option maxHeartbeats 1000000 in
theorem copied_any {ao : Option Addr} {c : Nat} {bs : List Int} (hr : RdB w ao bs) (hz : ao = none → bs.length = 0 ∧ c = 0) (hn : bs.length ≤ 1048576) : Calls Try.prog 40 #[.slice ao bs.length c] w fun e w' => ∃ a1 c1, e = .returned (.slice a1 bs.length c1) ∧ w'.ownsRow w.heap.size 5 1 (.slice a1 bs.length c1) bs.length (byts bs) ∧ Below w.heap.size w w' := by
 have HN : Hid (∀ ad, ao = some ad → ∀ j u, (byts bs)[j]? = some u → w.cell? (ad.add j) = some u) := rdB_news hr
 have Hz : Hid (ao = none → bs.length = 0 ∧ c = 0) := hz
 have Hl : Hid ((byts bs).length = bs.length * 1) := (show _ = _ from by rw [byts_len, Nat.mul_one])
 have H1 : Hid (∀ u ∈ byts bs, u.oneCell' = true) := byts_one bs
 have Hnil : Hid (bs.length = 0 → byts bs = []) := fun h => by rw [List.eq_nil_of_length_eq_zero h]; rfl
 obtain ⟨si, shi, shz0, shz1, shz2⟩ := byte_info
 clear hr hz
 generalize byts bs = bv at *
 generalize bs.length = n at *
 have h0 : w.ownsRow w.heap.size 5 1 (.slice none 0 0) 0 [] := ⟨rfl, .inl ⟨rfl, rfl⟩⟩
 cases ao with
 | none =>
  obtain ⟨rfl, rfl⟩ := Hz.out rfl
  obtain rfl : bv = [] := Hnil.out rfl
  go_enter Try.func40, Try.ntmps40
  go_wp2_with (first | (at_builtin; refine wpList_append_own_none rfl _ _ 92 rfl w.heap.size 5 si 1 Try.underlying92 shi (.slice none 0 0) 0 [] rfl h0 rfl ?_) | fail)
  go_ret
  exact ⟨none, 0, rfl, h0, Below.refl _ _⟩
 | some ad =>
  go_enter Try.func40, Try.ntmps40
  go_wp2_with (first | (at_builtin; refine wpList_append_own _ rfl _ _ 92 rfl w.heap.size 5 si (.int .u8 0) 1 1 Try.underlying92 shi shz0 shz1 shz2 rfl (by omega) (.slice none 0 0) 0 [] rfl h0 ad n c bv rfl Hl.out (HN.out ad rfl) H1.out (by unfold maxLen; omega) (by omega) (Nat.le_refl _) ?_; intro v' w' h2 h3 _) | fail)
  simp only [Nat.zero_add, List.nil_append] at h2
  have hb2 : Below w.heap.size w w' := (Below.refl _ _).grown h3 (Nat.le_refl _) (fun k hk => by simp [Value.ownBlock] at hk)
  obtain ⟨a1, c1, rfl⟩ : ∃ a1 c1, v' = Value.slice a1 n c1 := by
   rcases h2.2 with ⟨h3, h4⟩ | ⟨g, cap, cur, hv, _⟩
   ·exact ⟨none, 0, by rw [h4]; exact h3⟩
   ·exact ⟨_, _, hv⟩
  go_wp2
  go_ret
  exact ⟨a1, c1, rfl, h2, hb2⟩
end
end Go.Proofs.Ytobaooebjgoaiaa.Fm
namespace Go.Proofs.Ytobaooebjgoaiaa.Fm
open Go.RowKit Go.Maps Mb
set_option linter.unusedVariables false
set_option maxRecDepth 100000
set_option linter.unusedSimpArgs false
section
variable {w w' W : World} {B : Nat}
def fndB (ds : List Dx) (s : Int × Int) : Option (List Int) := (ds.find? (fun x => decide (x.s = s))).map (·.bs)
theorem fnd_first {ds : List Dx} {s : Int × Int} {i : Nat} (h : First ds s i) : fndB ds s = some (ds.getD i dx0).bs := by
 unfold fndB
 have : ds.find? (fun x => decide (x.s = s)) = some (ds.getD i dx0) := by
  rw [List.find?_eq_some_iff_getElem]
  have hl := h.1
  have e : ds.getD i dx0 = ds[i] := by simp [List.getD, hl]
  refine ⟨by rw [h.2.1]; simp, i, hl, e.symm, fun j hj => ?_⟩
  have := h.2.2 j hj
  have e2 : ds.getD j dx0 = ds[j] := by simp [List.getD, show j < ds.length by omega]
  rw [e2] at this
  simpa using this
 rw [this]
 rfl
theorem fnd_none {ds : List Dx} {s : Int × Int} (h : ∀ i, i < ds.length → (ds.getD i dx0).s ≠ s) : fndB ds s = none := by
 unfold fndB
 rw [List.find?_eq_none.2 (fun x hx => by
  obtain ⟨i, hi, rfl⟩ := List.mem_iff_getElem.1 hx
  have := h i hi
  simp [List.getD, hi] at this
  simpa using this)]
 rfl
structure RsOk (ds : List Dx) (d : Int) (ss : List (Int × Int)) (out : List Dx) : Prop where
 len : out.length = ss.length
 el : ∀ j, j < ss.length → (out.getD j dx0).s = (d + 1 + (j : Int), (ss.getD j z2).1) ∧ (out.getD j dx0).st = (ss.getD j z2).2 ∧ fndB ds (ss.getD j z2) = some (out.getD j dx0).bs
def RsMiss (ds : List Dx) (ss : List (Int × Int)) : Prop := ∃ j, j < ss.length ∧ fndB ds (ss.getD j z2) = none
theorem RsOk.nomiss {ds : List Dx} {d : Int} {ss : List (Int × Int)} {out : List Dx} (h : RsOk ds d ss out) (k : RsMiss ds ss) : False := by
 obtain ⟨j, hj, e⟩ := k
 rw [(h.el j hj).2.2] at e
 cases e
theorem RsOk.nil (ds : List Dx) (d : Int) : RsOk ds d [] [] := ⟨rfl, fun j hj => by simp at hj⟩
theorem RsOk.app {ds : List Dx} {d : Int} {ss : List (Int × Int)} {out : List Dx} (h : RsOk ds d ss out) {s : Int × Int} {x : Dx} (h1 : x.s = (d + 1 + (ss.length : Int), s.1)) (h2 : x.st = s.2) (h3 : fndB ds s = some x.bs) : RsOk ds d (ss ++ [s]) (out ++ [x]) := by
 refine ⟨by simp [h.len], fun j hj => ?_⟩
 by_cases e : j < ss.length
 ·have e1 : (out ++ [x]).getD j dx0 = out.getD j dx0 := by simp [List.getD, List.getElem?_append, show j < out.length by rw [h.len]; exact e]
  have e2 : (ss ++ [s]).getD j z2 = ss.getD j z2 := by simp [List.getD, List.getElem?_append, e]
  rw [e1, e2]
  exact h.el j e
 ·have hj2 : j = ss.length := by simp at hj; omega
  subst hj2
  have e1 : (out ++ [x]).getD ss.length dx0 = x := by simp [List.getD, ← h.len]
  have e2 : (ss ++ [s]).getD ss.length z2 = s := by simp [List.getD]
  rw [e1, e2]
  exact ⟨h1, h2, h3⟩
structure Al (a b : List Dx) : Prop where
 len : a.length = b.length
 el : ∀ j, j < b.length → (a.getD j dx0).s = (b.getD j dx0).s ∧ (a.getD j dx0).st = (b.getD j dx0).st ∧ (a.getD j dx0).bs = (b.getD j dx0).bs
theorem RsOk.al {ds : List Dx} {d : Int} {ss : List (Int × Int)} {a b : List Dx} (h : RsOk ds d ss a) (k : RsOk ds d ss b) : Al a b := ⟨by rw [h.len, k.len], fun j hj => by
 have h1 := h.el j (by rw [← k.len]; exact hj)
 have h2 := k.el j (by rw [← k.len]; exact hj)
 refine ⟨by rw [h1.1, h2.1], by rw [h1.2.1, h2.2.1], ?_⟩
 have := h1.2.2
 rw [h2.2.2] at this
 simpa using this.symm⟩
theorem Al.nil : Al [] [] := ⟨rfl, fun j hj => by simp at hj⟩
def RsS (cs : List Co) (ds : List Dx) (d E : Int) (l : List Dx) : Prop :=
 (lkB cs d = false ∧ E = 1 ∧ l = []) ∨ (lkB cs d = true ∧ togE cs ≠ 0 ∧ E = togE cs ∧ l = []) ∨
 (lkB cs d = true ∧ togE cs = 0 ∧ d < baseOf cs ∧ E = 82 ∧ l = []) ∨
 (lkB cs d = true ∧ togE cs = 0 ∧ ¬ d < baseOf cs ∧ ∃ n ss, Ends cs n ∧ SlOf cs n ss ∧ ((RsMiss ds (ss.drop (d - baseOf cs).toNat) ∧ E = 81 ∧ l = []) ∨ (RsOk ds d (ss.drop (d - baseOf cs).toNat) l ∧ E = 0)))
theorem RsS.eq {cs : List Co} {ds : List Dx} {d E E' : Int} {l l' : List Dx} (h : RsS cs ds d E l) (k : RsS cs ds d E' l') : E = E' ∧ Al l l' := by
 unfold RsS at h k
 rcases h with ⟨a1, a2, a3⟩ | ⟨a1, a2, a3, a4⟩ | ⟨a1, a2, a3, a4, a5⟩ | ⟨a1, a2, a3, n, ss, h1, h2, h3⟩
 ·rcases k with ⟨b1, b2, b3⟩ | ⟨b1, b2, b3, b4⟩ | ⟨b1, b2, b3, b4, b5⟩ | ⟨b1, b2, b3, n', ss', k1, k2, k3⟩
  ·subst a3 b3; exact ⟨by omega, Al.nil⟩
  all_goals (rw [a1] at b1; cases b1)
 ·rcases k with ⟨b1, b2, b3⟩ | ⟨b1, b2, b3, b4⟩ | ⟨b1, b2, b3, b4, b5⟩ | ⟨b1, b2, b3, n', ss', k1, k2, k3⟩
  ·rw [a1] at b1; cases b1
  ·subst a4 b4; exact ⟨by omega, Al.nil⟩
  ·exact absurd b2 a2
  ·exact absurd b2 a2
 ·rcases k with ⟨b1, b2, b3⟩ | ⟨b1, b2, b3, b4⟩ | ⟨b1, b2, b3, b4, b5⟩ | ⟨b1, b2, b3, n', ss', k1, k2, k3⟩
  ·rw [a1] at b1; cases b1
  ·exact absurd a2 b2
  ·subst a5 b5; exact ⟨by omega, Al.nil⟩
  ·exact absurd a3 b3
 ·rcases k with ⟨b1, b2, b3⟩ | ⟨b1, b2, b3, b4⟩ | ⟨b1, b2, b3, b4, b5⟩ | ⟨b1, b2, b3, n', ss', k1, k2, k3⟩
  ·rw [a1] at b1; cases b1
  ·exact absurd a2 b2
  ·exact absurd b3 a3
  ·obtain rfl := h1.eq k1
   obtain rfl := h2.eq k2
   rcases h3 with ⟨p1, p2, p3⟩ | ⟨p1, p2⟩
   ·rcases k3 with ⟨q1, q2, q3⟩ | ⟨q1, q2⟩
    ·subst p3 q3; exact ⟨by omega, Al.nil⟩
    ·exact (q1.nomiss p1).elim
   ·rcases k3 with ⟨q1, q2, q3⟩ | ⟨q1, q2⟩
    ·exact (p1.nomiss q1).elim
    ·exact ⟨by omega, p1.al q1⟩
theorem RsS.len {cs : List Co} {ds : List Dx} {d E : Int} {l : List Dx} (h : RsS cs ds d E l) : l.length ≤ 128 := by
 rcases h with ⟨_, _, rfl⟩ | ⟨_, _, _, rfl⟩ | ⟨_, _, _, _, rfl⟩ | ⟨_, a2, _, n, ss, h1, h2, ⟨_, _, rfl⟩ | ⟨h3, _⟩⟩
 ·simp
 ·simp
 ·simp
 ·simp
 ·have h4 := Ends.le (tog_of a2) h1.1
  have h5 := h2.1
  rw [h3.len, List.length_drop]
  omega
def msC (xs : List Dx) : List Value := xs.flatMap Dx.cs
theorem msC_len (xs : List Dx) : (msC xs).length = xs.length * 4 := by
 induction xs with
 | nil => rfl
 | cons s ss ih => simp only [msC, List.flatMap_cons, List.length_append] at ih ⊢; rw [ih, Dx.cs_len]; simp; omega
theorem msC_app (xs : List Dx) (x : Dx) : msC (xs ++ [x]) = msC xs ++ x.cs := by simp [msC]
theorem msC_at (xs : List Dx) (i : Nat) (hi : i < xs.length * 4) : (msC xs)[i]? = some (dxC xs i) := by
 induction xs generalizing i with
 | nil => simp at hi
 | cons s ss ih =>
  simp only [msC, List.flatMap_cons]
  by_cases h : i < 4
  ·rw [List.getElem?_append_left (by rw [Dx.cs_len]; exact h)]
   unfold dxC
   rw [show i / 4 = 0 by omega, show i % 4 = i by omega, List.getD_cons_zero, List.getD, List.getElem?_eq_getElem (by rw [Dx.cs_len]; exact h)]
   rfl
  ·rw [List.getElem?_append_right (by rw [Dx.cs_len]; omega), Dx.cs_len]
   have := ih (i - 4) (by simp at hi; omega)
   rw [show List.flatMap Dx.cs ss = msC ss from rfl, this]
   unfold dxC
   rw [show i / 4 = (i - 4) / 4 + 1 by omega, show i % 4 = (i - 4) % 4 by omega]
   simp
def Dx.v (x : Dx) : Value := .slice x.ba x.bs.length x.bc
structure MoT (t : Nat) (B : Nat) (w : World) (v : Value) (out : List Dx) : Prop where
 row : w.ownsRow B t 4 v out.length (msC out)
 el : ∀ i, i < out.length → w.ownsRow B 5 1 (out.getD i dx0).v (out.getD i dx0).bs.length (byts (out.getD i dx0).bs)
 dis : ∀ i j, i < j → j < out.length → ∀ g, (out.getD i dx0).v.ownBlock = some g → (out.getD j dx0).v.ownBlock ≠ some g
theorem MoT.still {t : Nat} {v : Value} {out : List Dx} (h : MoT t B w v out) (hb : Below w.heap.size w w') : MoT t B w' v out := ⟨own_still h.row hb, fun i hi => own_still (h.el i hi) hb, h.dis⟩
theorem MoT.nil (t B : Nat) (w : World) : MoT t B w (.slice none 0 0) [] := ⟨⟨rfl, .inl ⟨rfl, rfl⟩⟩, fun i hi => by simp at hi, fun i j _ hj => by simp at hj⟩
theorem MoT.lower {t B' : Nat} {v : Value} {out : List Dx} (h : MoT t B w v out) (hB : B' ≤ B) : MoT t B' w v out := ⟨own_lower h.row hB, fun i hi => own_lower (h.el i hi) hB, h.dis⟩
theorem own_rdB {a : Option Addr} {n c : Nat} {xs : List Int} (h : w.ownsRow B 5 1 (.slice a n c) n (byts xs)) (hn : xs.length = n) : RdB w a xs := by
 unfold RdB
 rw [hn]
 exact own_row h (fun i hi => byts_at xs i (by omega))
theorem MoT.rd {t : Nat} {a : Option Addr} {n c : Nat} {out : List Dx} (h : MoT t B w (.slice a n c) out) (hn : out.length = n) (h64 : ∀ i, i < out.length → i64B (out.getD i dx0).s.1 ∧ i64B (out.getD i dx0).s.2) : RdDs w a out := by
 refine ⟨?_, fun i hi => ⟨own_rdB (h.el i hi) rfl, h64 i hi⟩⟩
 have := h.row
 rw [hn] at this ⊢
 exact own_row this (fun i hi => msC_at out i (by rw [hn]; exact hi))
theorem MoT.app {t : Nat} {v v' : Value} {out : List Dx} {w0 w1 : World} {x : Dx} (ht : t ≠ 5) (h : MoT t B w0 v out) (hx : w1.ownsRow w0.heap.size 5 1 x.v x.bs.length (byts x.bs)) (h01 : Below w0.heap.size w0 w1) (hB : B ≤ w0.heap.size) (hk : Kept w1 w' (fun k => v.ownBlock = some k)) (ho : w'.ownsRow B t 4 v' (out.length + 1) (msC out ++ x.cs)) : MoT t B w' v' (out ++ [x]) := by
 have h1 := h.still h01
 have ne : ∀ {vv : Value} {n : Nat} {l : List Value} {B' : Nat}, w1.ownsRow B' 5 1 vv n l → w'.ownsRow B' 5 1 vv n l := fun hh => hk.owns hh fun g hg e => by
  obtain ⟨_, c1, e1⟩ := row_cells hh hg
  obtain ⟨_, c2, e2⟩ := row_cells h1.row e
  rw [e1] at e2
  simp at e2
  exact ht e2.2.symm
 have gl : ∀ i, i < out.length → (out ++ [x]).getD i dx0 = out.getD i dx0 := fun i hi => by simp [List.getD, List.getElem?_append, hi]
 have gr : (out ++ [x]).getD out.length dx0 = x := by simp [List.getD]
 refine ⟨by rw [List.length_append, msC_app]; exact ho, fun i hi => ?_, fun i j hij hj g hg => ?_⟩
 ·by_cases e : i < out.length
  ·rw [gl i e]; exact ne (h1.el i e)
  ·have : i = out.length := by simp at hi; omega
   subst this
   rw [gr]
   exact own_lower (ne hx) hB
 ·by_cases e : j < out.length
  ·rw [gl i (by omega)] at hg
   rw [gl j e]
   exact h.dis i j hij e g hg
  ·have : j = out.length := by simp at hj; omega
   subst this
   rw [gl i hij] at hg
   rw [gr]
   intro e2
   have h3 := (World.ownsRow.lt (h.el i hij) g hg).2
   have h4 := (row_cells hx e2).1
   omega
theorem step_appG {ops : Array Oper} {o : Oper} {a : Act} {K : Act → World → Prop} {Q : Exit → Act → World → Prop} {E : Prop} (hgd : o.guard = none) (s x : Operand) (t : TypeId)
  (ho : o.op = .call { callee := .builtin .append, args := #[s, x], argTypes := #[t, t] })
  (base : Nat) (e : TypeId) (i : TypeInfo) (z : Value) (size bytes : Nat) (ht : Try.prog.underlying t = some (.slice e)) (hi : Try.prog.info? e = some i) (hz : i.zero = some z)
  (hsize : i.size = size) (hby : i.bytes = bytes) (hzs : z.cells.size = size) (hsz : 0 < size)
  (v : Value) (n : Nat) (xs : List Value) (hs : a.eval s = v) (hown : w.ownsRow base e size v n xs) {nb : Nat} (news : List Value) (hx : a.eval x = .slice (some ⟨nb, 0, none⟩) 1 1) (hl : news.length = size) (hnb : w.heap[nb]? = some (.cells news.toArray e (0, 0))) (h1 : ∀ u ∈ news, u.oneCell' = true)
  (h63 : n + 1 ≤ maxLen) (hbytes : (n + 1) * bytes ≤ 140737488355328) (hbase : base ≤ w.heap.size)
  (h : ∀ v' w', w'.ownsRow base e size v' (n + 1) (xs ++ news) → Kept w w' (fun k => v.ownBlock = some k) → K (a.put o.dst v') w') : if Region.wanted o (yielded ops a.tmps) = true then Oper.wp Try.prog o a w K Q else E := by
 have hwt : Region.wanted o (yielded ops a.tmps) = true := by simp [Region.wanted, hgd]
 rw [if_pos hwt]
 obtain ⟨v', w', hr, h2, h3, h4, h5⟩ := run_append_own_at (P := Try.prog) w base t o.type e i z size bytes ht hi hz hsize hby hzs hsz v n xs hown ⟨nb, 0, none⟩ 1 1 news (by rw [hl]; omega) (fun j u hu => by
  rw [Addr.add_lit, Nat.zero_add, blk_cell hnb]
  simpa using hu) h1 h63 hbytes hbase
 unfold Oper.wp execOp
 simp only [ho, resolve, invoke, builtin, Sem.run_bind, Sem.run_pure, Result.andThen_ok, List.map_toArray, List.map_cons, List.map_nil, hs, hx, hr]
 exact h v' w' h2 ((Kept.ofGrown h3).mono fun k _ hk => hk.symm)
theorem msg_info : ∃ i : TypeInfo, Try.prog.info? 97 = some i ∧ i.zero = some (.agg #[.int .i64 0, .int .i64 0, .int .i64 0, .slice none 0 0]) ∧ i.size = 4 ∧ i.bytes = 48 := by
 have h : (Try.prog.info? 97).map (fun i => (i.zero, i.size, i.bytes)) = some (some (.agg #[.int .i64 0, .int .i64 0, .int .i64 0, .slice none 0 0]), 4, 48) := by kernel_rfl
 cases hq : Try.prog.info? 97 with
 | none => rw [hq] at h; cases h
 | some i => rw [hq] at h; simp at h; exact ⟨i, rfl, h.1, h.2.1, h.2.2⟩
theorem bMs (x : Dx) : Try.prog.builtSlice 97 1 [(0, .agg x.cs.toArray)] = some x.cs.toArray := by kernel_rfl
theorem bDa (x : Dx) : Try.prog.builtSlice 95 1 [(0, .agg x.cs.toArray)] = some x.cs.toArray := by kernel_rfl
theorem bMg (x : Dx) : Try.prog.built 97 [(0, .int .i64 x.s.1), (1, .int .i64 x.s.2), (2, .int .i64 x.st), (3, .slice x.ba x.bs.length x.bc)] = some x.cs.toArray := by kernel_rfl
theorem dx_cell {ds : List Dx} {ao : Option Addr} (h : RdDs w ao ds) {i : Nat} (hi : i < ds.length) : ∃ b off, ao = some ⟨b, off, none⟩ ∧ w.cell? ⟨b, off + i * 4 + 3, none⟩ = some (.slice (ds.getD i dx0).ba (ds.getD i dx0).bs.length (ds.getD i dx0).bc) := by
 obtain ⟨b, off, h1, h2⟩ := h.at hi
 exact ⟨b, off, h1, h2 3 _ rfl⟩
end
end Go.Proofs.Ytobaooebjgoaiaa.Fm
