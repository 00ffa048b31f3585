import Derived.Test.YtnhhjelplmdloaaV32
import Derived.Deep.RegionHeld3
import Derived.Deep.DeepCutAuto
namespace Go.Proofs.Ytnhhjelplmdloaa.Et
open Go.RowKit Go.Maps
set_option linter.unusedVariables false
set_option linter.unusedSimpArgs false
set_option maxRecDepth 100000
section
variable {E E1 E' : En} {w w' w1 w2 w3 : World} {B K m : Nat}
theorem oneB : (Try.prog.info? 4).map (·.size) = some 1 := by kernel_rfl
theorem oneI : (Try.prog.info? 3).map (·.size) = some 1 := by kernel_rfl
theorem wl_stB {ops : Array Oper} {rest : List Oper} {o : Oper} {a : Act} {Q : Exit → Act → World → Prop} (hgd : o.guard = none) (ty : TypeId) (x y : Operand) (ho : o.op = .store ty x y) {g p t : Nat} {C : Array Value} {z : Bool} (hx : a.eval x = .pointer (some ⟨g, p, none⟩)) (hy : a.eval y = .bool z) (hg : w.heap[g]? = some (.cells C t (0, 0))) (hp : p < C.size) (hz : (Try.prog.info? ty).map (·.size) = some 1) (hd : o.dst = none)
    (h : wpList Try.prog ops Q rest a (w.setCell ⟨g, p, none⟩ (.bool z))) : wpList Try.prog ops Q (o :: rest) a w := wpList_plain hgd fun K hK => by
    have q : w.cell? ⟨g, p, none⟩ = some C[p] := by rw [blk_cell hg p]; exact Array.getElem?_eq_getElem hp
    have zz : w.frozen? ⟨g, p, none⟩ = false := frozen_of_row w _ _ _ _ hg
    have hs := size_of (w := w) hz
    unfold Oper.wp execOp
    simp only [ho, hx, hy]
    go_simp
    have hk := hK a _ h
    rw [hd] at *
    exact hk
theorem step_stB {ops : Array Oper} {o : Oper} {a : Act} {K : Act → World → Prop} {Q : Exit → Act → World → Prop} {EE : Prop} (hgd : o.guard = none) (ty : TypeId) (x y : Operand) (ho : o.op = .store ty x y) {g p t : Nat} {C : Array Value} {z : Bool} (hx : a.eval x = .pointer (some ⟨g, p, none⟩)) (hy : a.eval y = .bool z) (hg : w.heap[g]? = some (.cells C t (0, 0))) (hp : p < C.size) (hz : (Try.prog.info? ty).map (·.size) = some 1) (hd : o.dst = none)
    (h : K a (w.setCell ⟨g, p, none⟩ (.bool z))) : if Region.wanted o (yielded ops a.tmps) = true then Oper.wp Try.prog o a w K Q else EE := by
    rw [if_pos (show Region.wanted o (yielded ops a.tmps) = true by simp [Region.wanted, hgd])]
    have q : w.cell? ⟨g, p, none⟩ = some C[p] := by rw [blk_cell hg p]; exact Array.getElem?_eq_getElem hp
    have zz : w.frozen? ⟨g, p, none⟩ = false := frozen_of_row w _ _ _ _ hg
    have hs := size_of (w := w) hz
    unfold Oper.wp execOp
    simp only [ho, hx, hy]
    go_simp
    have hk := h
    rw [hd] at *
    exact hk
theorem wl_stI {ops : Array Oper} {rest : List Oper} {o : Oper} {a : Act} {Q : Exit → Act → World → Prop} (hgd : o.guard = none) (ty : TypeId) (x y : Operand) (ho : o.op = .store ty x y) {g p t : Nat} {C : Array Value} {z : Int} (hx : a.eval x = .pointer (some ⟨g, p, none⟩)) (hy : a.eval y = .int .i64 z) (hg : w.heap[g]? = some (.cells C t (0, 0))) (hp : p < C.size) (hz : (Try.prog.info? ty).map (·.size) = some 1) (hd : o.dst = none)
    (h : wpList Try.prog ops Q rest a (w.setCell ⟨g, p, none⟩ (.int .i64 z))) : wpList Try.prog ops Q (o :: rest) a w := wpList_plain hgd fun K hK => by
    have q : w.cell? ⟨g, p, none⟩ = some C[p] := by rw [blk_cell hg p]; exact Array.getElem?_eq_getElem hp
    have zz : w.frozen? ⟨g, p, none⟩ = false := frozen_of_row w _ _ _ _ hg
    have hs := size_of (w := w) hz
    unfold Oper.wp execOp
    simp only [ho, hx, hy]
    go_simp
    have hk := hK a _ h
    rw [hd] at *
    exact hk
theorem step_stI {ops : Array Oper} {o : Oper} {a : Act} {K : Act → World → Prop} {Q : Exit → Act → World → Prop} {EE : Prop} (hgd : o.guard = none) (ty : TypeId) (x y : Operand) (ho : o.op = .store ty x y) {g p t : Nat} {C : Array Value} {z : Int} (hx : a.eval x = .pointer (some ⟨g, p, none⟩)) (hy : a.eval y = .int .i64 z) (hg : w.heap[g]? = some (.cells C t (0, 0))) (hp : p < C.size) (hz : (Try.prog.info? ty).map (·.size) = some 1) (hd : o.dst = none)
    (h : K a (w.setCell ⟨g, p, none⟩ (.int .i64 z))) : if Region.wanted o (yielded ops a.tmps) = true then Oper.wp Try.prog o a w K Q else EE := by
    rw [if_pos (show Region.wanted o (yielded ops a.tmps) = true by simp [Region.wanted, hgd])]
    have q : w.cell? ⟨g, p, none⟩ = some C[p] := by rw [blk_cell hg p]; exact Array.getElem?_eq_getElem hp
    have zz : w.frozen? ⟨g, p, none⟩ = false := frozen_of_row w _ _ _ _ hg
    have hs := size_of (w := w) hz
    unfold Oper.wp execOp
    simp only [ho, hx, hy]
    go_simp
    have hk := h
    rw [hd] at *
    exact hk
def zs (i : Nat) : Value := if i = 0 then .int .i64 0 else if i < 18 then .bool false else if i < 52 then .int .i64 0 else if i < 341 then .bool false else if i < 630 then .int .i64 0 else .slice none 0 0
theorem zs_one (i : Nat) : (zs i).oneCell' = true := by
  unfold zs
  repeat' split
  all_goals rfl
theorem zSight : (Try.prog.info? 58).map (·.zero) = some (some (.agg (rv 631 zs).toArray)) := by kernel_rfl
theorem bSight (c : Int) (a : Option Addr) (n k : Nat) : Try.prog.built 58 [(0, .int .i64 c), (6, .slice a n k)] = some (rv 631 (upv (upv zs 0 (.int .i64 c)) 630 (.slice a n k))).toArray := by kernel_rfl
def dn (p q r d : Nat) (i : Nat) : Prop :=
  i = 0 ∨ i = 630 ∨ (1 ≤ i ∧ i < 18 ∧ (i - 1 < p ∨ (1 ≤ d ∧ i - 1 = p))) ∨ (18 ≤ i ∧ i < 35 ∧ (i - 18 < p ∨ (2 ≤ d ∧ i - 18 = p))) ∨ (35 ≤ i ∧ i < 52 ∧ (i - 35 < p ∨ (3 ≤ d ∧ i - 35 = p))) ∨ (52 ≤ i ∧ i < 341 ∧ i - 52 < p * 17 + q) ∨ (341 ≤ i ∧ i < 630 ∧ i - 341 < p * 17 + r)
structure Lk (E : En) (v : Value) (sb p q r d : Nat) (V X : World) (rb : Nat) (f : Nat → Value) : Prop where
  blk : X.heap[sb]? = some (.cells (rv 631 f).toArray 58 (0, 0))
  one : ∀ i, i < 631 → (f i).oneCell' = true
  ok : ∀ i, i < 631 → dn p q r d i → f i = sg E v i
  rb : X.heap[rb]? = some (.cells (rv 631 zs).toArray 58 (0, 0))
  b : Below V.heap.size V X
section
variable {v : Value} {sb p q r d rb : Nat} {V X X' : World} {f : Nat → Value}
theorem Lk.still (h : Lk E v sb p q r d V X rb f) (hb : Below X.heap.size X X') : Lk E v sb p q r d V X' rb f :=
  ⟨(hb.block _ (lt_heap h.blk)).trans h.blk, h.one, h.ok, (hb.block _ (lt_heap h.rb)).trans h.rb, bstep h.b hb⟩
theorem Lk.put (h : Lk E v sb p q r d V X rb f) {i p' q' r' d' : Nat} {z : Value} (hi : i < 631) (hz : z.oneCell' = true) (hv : dn p' q' r' d' i → z = sg E v i) (hd : ∀ j, j < 631 → j ≠ i → dn p' q' r' d' j → dn p q r d j) (hsb : V.heap.size ≤ sb) (hne : rb ≠ sb) : Lk E v sb p' q' r' d' V (X.setCell ⟨sb, i, none⟩ z) rb (upv f i z) := by
  refine ⟨?_, fun j hj => ?_, fun j hj hdn => ?_, ?_, ?_⟩
  · rw [← rv_set]
    exact blk_set h.blk (by rw [List.setIfInBounds_toArray])
  · unfold upv
    split
    · exact hz
    · exact h.one j hj
  · unfold upv
    split
    · next e => subst e; exact hv hdn
    · next e => exact h.ok j hj (hd j hj e hdn)
  · exact blk_set_ne h.rb hne
  · exact h.b.trans ((kset (P := fun q => q = sb) X sb i z rfl).below h.b.size (fun q hq e => by omega))
theorem Lk.cong {p' q' r' d' : Nat} (h : Lk E v sb p q r d V X rb f) (hd : ∀ j, j < 631 → dn p' q' r' d' j → dn p q r d j) : Lk E v sb p' q' r' d' V X rb f := ⟨h.blk, h.one, fun j hj e => h.ok j hj (hd j hj e), h.rb, h.b⟩
theorem sg_up {p : Nat} (h : p < 17) : sg E v (1 + p) = .bool (isN E (p : Int) && E.up p) := by
  unfold sg
  rw [if_neg (by omega), if_pos (by omega), show 1 + p - 1 = p by omega]
theorem sg_inc {p : Nat} (h : p < 17) : sg E v (18 + p) = .int .i64 (if isN E (p : Int) then E.inc p else 0) := by
  unfold sg
  rw [if_neg (by omega), if_neg (by omega), if_pos (by omega), show 18 + p - 18 = p by omega]
theorem sg_tick {p : Nat} (h : p < 17) : sg E v (35 + p) = .int .i64 (if isN E (p : Int) then E.tick p else 0) := by
  unfold sg
  rw [if_neg (by omega), if_neg (by omega), if_neg (by omega), if_pos (by omega), show 35 + p - 35 = p by omega]
theorem sg_open {p q : Nat} (hp : p < 17) (hq : q < 17) : sg E v (52 + p * 17 + q) = .bool (isP E (p : Int) (q : Int) && !E.cut p q) := by
  unfold sg
  rw [if_neg (by omega), if_neg (by omega), if_neg (by omega), if_neg (by omega), if_pos (by omega), show (52 + p * 17 + q - 52) / 17 = p by omega, show (52 + p * 17 + q - 52) % 17 = q by omega]
theorem sg_delay {p q : Nat} (hp : p < 17) (hq : q < 17) : sg E v (341 + p * 17 + q) = .int .i64 (if isP E (p : Int) (q : Int) then E.dl p q else 0) := by
  unfold sg
  rw [if_neg (by omega), if_neg (by omega), if_neg (by omega), if_neg (by omega), if_neg (by omega), if_pos (by omega), show (341 + p * 17 + q - 341) / 17 = p by omega, show (341 + p * 17 + q - 341) % 17 = q by omega]
end
set_option maxHeartbeats 4000000 in
theorem look_any (h : E.Ok w B m) (hlen : E.fs.length ≤ 20000) (hsz : ∀ f ∈ E.fs, f.n ≤ 40000) : Calls Try.prog 17 #[.pointer (some ⟨E.b, 0, none⟩)] w fun e w' => ∃ a L, e = .returned (.agg (rv 631 (sg E (.slice a E.fs.length E.fs.length))).toArray) ∧ RdG w' w.heap.size a E.fs.length E.fs.length L ∧ L.map Fx.d = E.fs.map Fx.d ∧ Below w.heap.size w w' := by
  have HOk : Hid (E.Ok w B m) := h
  have HCk : Hid (∀ X, Below w.heap.size w X → Calls Try.prog 31 #[.pointer (some ⟨E.b, 0, none⟩)] X fun e w' => e = .returned (.int .i64 E.clock) ∧ X = w') := fun X hX => clock_any (h.still hX)
  have HFl : Hid (∀ X, Below w.heap.size w X → Calls Try.prog 15 #[.pointer (some ⟨E.b, 0, none⟩)] X fun e w' => ∃ a L, e = .returned (.slice a E.fs.length E.fs.length) ∧ RdG w' X.heap.size a E.fs.length E.fs.length L ∧ L.map Fx.d = E.fs.map Fx.d ∧ Below X.heap.size X w') := fun X hX => flights2_any (h.still hX) hlen hsz
  have HUp : Hid (∀ X (p : Nat), Below w.heap.size w X → Calls Try.prog 13 #[.pointer (some ⟨E.b, 0, none⟩), .int .i64 (p : Int)] X fun e w' => e = .returned (.bool (isN E (p : Int) && E.up p)) ∧ X = w') := fun X p hX => up_any (h.still hX) p
  have HIn : Hid (∀ X (p : Nat), Below w.heap.size w X → Calls Try.prog 14 #[.pointer (some ⟨E.b, 0, none⟩), .int .i64 (p : Int)] X fun e w' => e = .returned (.int .i64 (if isN E (p : Int) then E.inc p else 0)) ∧ X = w') := fun X p hX => inc_any (h.still hX) p
  have HTi : Hid (∀ X (p : Nat), Below w.heap.size w X → Calls Try.prog 40 #[.pointer (some ⟨E.b, 0, none⟩), .int .i64 (p : Int)] X fun e w' => e = .returned (.int .i64 (if isN E (p : Int) then E.tick p else 0)) ∧ X = w') := fun X p hX => ticks_any (h.still hX) p
  have HOp : Hid (∀ X (p q : Nat), Below w.heap.size w X → Calls Try.prog 30 #[.pointer (some ⟨E.b, 0, none⟩), .int .i64 (p : Int), .int .i64 (q : Int)] X fun e w' => e = .returned (.bool (isP E (p : Int) (q : Int) && !E.cut p q)) ∧ Below X.heap.size X w') := fun X p q hX => open_any (h.still hX) p q
  have HDl : Hid (∀ X (p q : Nat), Below w.heap.size w X → Calls Try.prog 41 #[.pointer (some ⟨E.b, 0, none⟩), .int .i64 (p : Int), .int .i64 (q : Int)] X fun e w' => e = .returned (.int .i64 (if isP E (p : Int) (q : Int) then E.dl p q else 0)) ∧ Below X.heap.size X w') := fun X p q hX => delayOf_any (h.still hX) p q
  have HLs : Hid (∀ f : Nat → Value, (rv 631 f).length = 631) := fun f => rv_len 631 f
  have HSg : Hid (∀ (a : Option Addr) (n c : Nat), ∀ u ∈ rv 631 (sg E (.slice a n c)), u.oneCell' = true) := fun a n c => rv_one (fun i _ => sg_one E a n c i)
  clear h hlen hsz
  generalize E.fs.length = N at *
  go_enter Try.func17, Try.ntmps17
  go_upto_region 2 with (first
    | (refine wl_allocZ rfl 58 rfl zSight ?_; intro W0 k0 b0 s0; have K0 : Hid (W0.heap[w.heap.size]? = some (.cells (rv 631 zs).toArray 58 (0, 0))) := k0; have B0 : Hid (Below w.heap.size w W0) := b0; have S0 : Hid (w.heap.size < W0.heap.size) := s0; clear k0 b0 s0)
    | (go_at_call 31; refine (HCk.out W0 B0.out).mono ?_; rintro e Vx ⟨rfl, rfl⟩)
    | (go_at_call 15; refine (HFl.out W0 B0.out).mono ?_; rintro e W1 ⟨a, L, rfl, hg, hd, hb⟩; have HG : Hid (RdG W1 W0.heap.size a N N L) := hg; have HD : Hid (L.map Fx.d = E.fs.map Fx.d) := hd; have B1 : Hid (Below W0.heap.size W0 W1) := hb; clear hg hd hb)
    | (refine wl_buildZ rfl 58 _ rfl (built_eq (by kernel_rfl) (bSight E.clock a N N)) ?_)
    | (refine wl_allocZ rfl 58 rfl zSight ?_; intro W2 k2 b2 s2; have K2 : Hid (W2.heap[W1.heap.size]? = some (.cells (rv 631 zs).toArray 58 (0, 0))) := k2; have B2 : Hid (Below W1.heap.size W1 W2) := b2; clear k2 b2 s2)
    | (refine wl_storeZ rfl 58 _ _ rfl (L := rv 631 (upv (upv zs 0 (.int .i64 E.clock)) 630 (.slice a N N))) rfl rfl K2.out (by rw [HLs.out]; exact iSi) (by rw [List.size_toArray, HLs.out, HLs.out]) (rv_one (fun i _ => by unfold upv; split; exact rfl; split; exact rfl; exact zs_one i)) ?_; intro W3 k3 kk3; have K3 : Hid (W3.heap[W1.heap.size]? = some (.cells (rv 631 (upv (upv zs 0 (.int .i64 E.clock)) 630 (.slice a N N))).toArray 58 (0, 0))) := k3; have KK3 : Hid (Mb.Kept W2 W3 (fun j => j = W1.heap.size)) := kk3; clear k3 kk3)
    | fail)
  have BW1 : Hid (Below w.heap.size w W1) := bstep B0.out B1.out
  have S1 : Hid (W0.heap.size ≤ W1.heap.size) := B1.out.size
  have B13 : Hid (Below W1.heap.size W1 W3) := (show Below W1.heap.size W1 W3 from B2.out.trans (KK3.out.below B2.out.size (fun q hq e => by have e' : q = W1.heap.size := e; omega)))
  have HL0 : Hid (Lk E (.slice a N N) W1.heap.size 0 0 0 0 W1 W3 w.heap.size (upv (upv zs 0 (.int .i64 E.clock)) 630 (.slice a N N))) := ⟨K3.out, fun i _ => by unfold upv; split; exact rfl; split; exact rfl; exact zs_one i, fun i hi hd => by
      unfold dn at hd
      rcases hd with rfl | rfl | ⟨_, _, h | ⟨h, _⟩⟩ | ⟨_, _, h | ⟨h, _⟩⟩ | ⟨_, _, h | ⟨h, _⟩⟩ | ⟨_, _, h⟩ | ⟨_, _, h⟩ <;> first | omega | (cases h; done) | (simp [upv, sg]; done), by
      have h1 := (B13.out.block _ (by have := S0.out; have := S1.out; omega : w.heap.size < W1.heap.size)).trans ((B1.out.block _ S0.out).trans K0.out)
      exact h1, B13.out⟩
  have Hne : Hid (w.heap.size ≠ W1.heap.size ∧ w.heap.size < W1.heap.size) := ⟨by have := S0.out; have := S1.out; omega, by have := S0.out; have := S1.out; omega⟩
  have Hw1 : Hid (∀ (X : World) (v : Value) (sb' p q r d rb' : Nat) (f : Nat → Value), Lk E v sb' p q r d W1 X rb' f → Below w.heap.size w X) := fun X v sb' p q r d rb' f h => bstep BW1.out h.b
  clear K0 K2 K3 KK3 B2 HCk HFl
  generalize hsb : W1.heap.size = sb at *
  generalize hrb : w.heap.size = rb at *
  have Hsb : Hid (W1.heap.size = sb) := hsb
  have Hrb : Hid (w.heap.size = rb) := hrb
  clear hsb hrb
  go_wp2
  go_loopw [4] (fun i wr => ∃ p f, p ≤ 17 ∧ i = .int .i64 (p : Nat) ∧ Lk E (.slice a N N) sb p 0 0 0 W1 wr rb f) (fun i _ => 17 - (intOf i).toNat)
  case atStart => exact ⟨0, _, Nat.zero_le _, rfl, HL0.out⟩
  case round =>
    as_aux_lemma =>
    obtain ⟨p, f, hp, rfl, hl⟩ := hrel
    have HL : Hid (Lk E (.slice a N N) sb p 0 0 0 W1 wr rb f) := hl
    clear hl HL0
    have i1 : (0 : Int) ≤ (p : Int) := Int.natCast_nonneg _
    by_cases hlt : p < 17
    · have i2 : (p : Int) < 17 := by omega
      have hpc : Hid (∀ (f : Nat → Value) i, i < 631 → i < (rv 631 f).toArray.size) := fun f i hi => by rw [List.size_toArray, HLs.out]; exact hi
      have Hwz : Hid (W1.heap.size ≤ sb ∧ rb ≠ sb) := ⟨by rw [Hsb.out]; exact Nat.le_refl _, Hne.out.1⟩
      have HBr : Hid (Below rb w wr) := Hw1.out wr _ _ _ _ _ _ _ _ HL.out
      go_upto_region 6 with (first
        | (go_at_call 13; refine (HUp.out wr p HBr.out).mono ?_; rintro e Vx ⟨rfl, rfl⟩)
        | (refine wl_stB rfl 4 _ _ rfl (g := sb) (p := 1 + p) rfl rfl HL.out.blk (hpc.out _ _ (by omega)) oneB rfl ?_)
        | fail)
      have HLa : Hid (Lk E (.slice a N N) sb p 0 0 1 W1 (wr.setCell ⟨sb, 1 + p, none⟩ (.bool (isN E (p : Int) && E.up p))) rb (upv f (1 + p) (.bool (isN E (p : Int) && E.up p)))) := HL.out.put (by omega) rfl (fun _ => (sg_up hlt).symm) (fun j hj hji hd => by unfold dn at hd ⊢; omega) Hwz.out.1 Hwz.out.2
      generalize wr.setCell ⟨sb, 1 + p, none⟩ (.bool (isN E (p : Int) && E.up p)) = Ra at *
      generalize upv f (1 + p) (.bool (isN E (p : Int) && E.up p)) = fa at *
      have HBa : Hid (Below rb w Ra) := Hw1.out Ra _ _ _ _ _ _ _ _ HLa.out
      have Hzi : Hid (Calls Try.prog 14 #[.pointer (some ⟨E.b, 0, none⟩), .int .i64 (p : Int)] Ra fun e w' => e = .returned (.int .i64 (if isN E (p : Int) then E.inc p else 0)) ∧ Ra = w') := HIn.out Ra p HBa.out
      have Gzi : Hid (Value.int .i64 (if isN E (p : Int) then E.inc p else 0) = sg E (.slice a N N) (18 + p)) := (sg_inc hlt).symm
      generalize (if isN E (p : Int) then E.inc p else 0) = zi at Hzi Gzi
      go_upto_region 7 with (first
        | (go_at_call 14; refine Hzi.out.mono ?_; rintro e Vx ⟨rfl, rfl⟩)
        | (refine wl_stI rfl 3 _ _ rfl (g := sb) (p := 18 + p) rfl rfl HLa.out.blk (hpc.out _ _ (by omega)) oneI rfl ?_)
        | fail)
      have HLb : Hid (Lk E (.slice a N N) sb p 0 0 2 W1 (Ra.setCell ⟨sb, 18 + p, none⟩ (.int .i64 zi)) rb (upv fa (18 + p) (.int .i64 zi))) := HLa.out.put (by omega) rfl (fun _ => Gzi.out) (fun j hj hji hd => by unfold dn at hd ⊢; omega) Hwz.out.1 Hwz.out.2
      generalize Ra.setCell ⟨sb, 18 + p, none⟩ (.int .i64 zi) = Rb at *
      generalize upv fa (18 + p) (.int .i64 zi) = fb at *
      have HBb : Hid (Below rb w Rb) := Hw1.out Rb _ _ _ _ _ _ _ _ HLb.out
      have Hzt : Hid (Calls Try.prog 40 #[.pointer (some ⟨E.b, 0, none⟩), .int .i64 (p : Int)] Rb fun e w' => e = .returned (.int .i64 (if isN E (p : Int) then E.tick p else 0)) ∧ Rb = w') := HTi.out Rb p HBb.out
      have Gzt : Hid (Value.int .i64 (if isN E (p : Int) then E.tick p else 0) = sg E (.slice a N N) (35 + p)) := (sg_tick hlt).symm
      generalize (if isN E (p : Int) then E.tick p else 0) = zt at Hzt Gzt
      go_upto_region 8 with (first
        | (go_at_call 40; refine Hzt.out.mono ?_; rintro e Vx ⟨rfl, rfl⟩)
        | (refine wl_stI rfl 3 _ _ rfl (g := sb) (p := 35 + p) rfl rfl HLb.out.blk (hpc.out _ _ (by omega)) oneI rfl ?_)
        | fail)
      have HLc : Hid (Lk E (.slice a N N) sb p 0 0 3 W1 (Rb.setCell ⟨sb, 35 + p, none⟩ (.int .i64 zt)) rb (upv fb (35 + p) (.int .i64 zt))) := HLb.out.put (by omega) rfl (fun _ => Gzt.out) (fun j hj hji hd => by unfold dn at hd ⊢; omega) Hwz.out.1 Hwz.out.2
      generalize Rb.setCell ⟨sb, 35 + p, none⟩ (.int .i64 zt) = Rc at *
      generalize upv fb (35 + p) (.int .i64 zt) = fc at *
      clear HL HLa HLb HBr HBa HBb
      go_wp2
      go_loopw [5] (fun i wr => ∃ q f, q ≤ 17 ∧ i = .int .i64 (q : Nat) ∧ Lk E (.slice a N N) sb p q q 3 W1 wr rb f) (fun i _ => 17 - (intOf i).toNat)
      case atStart => exact ⟨0, _, Nat.zero_le _, rfl, HLc.out⟩
      case round =>
        as_aux_lemma =>
        obtain ⟨q, f, hq, rfl, hl⟩ := hrel
        have HL : Hid (Lk E (.slice a N N) sb p q q 3 W1 wr rb f) := hl
        clear hl HLc
        have j1 : (0 : Int) ≤ (q : Int) := Int.natCast_nonneg _
        by_cases hlq : q < 17
        · have j2 : (q : Int) < 17 := by omega
          have HBr : Hid (Below rb w wr) := Hw1.out wr _ _ _ _ _ _ _ _ HL.out
          have HLd : Hid (Lk E (.slice a N N) sb p q q 3 W1 wr.drew rb f) := HL.out.still (Below.refl _ _).drew
          have HBd : Hid (Below rb w wr.drew) := Hw1.out _ _ _ _ _ _ _ _ _ HLd.out
          clear HL HBr
          go_upto_region 11 with fail
          have HLdb : Hid (Below rb w wr.drew) := HBd.out
          refine wp_region_held_drew (S := (fun _ => True)) (by kernel_rfl) trivial (fun hHeld => ?_)
          simp only [Act.put, List.size_toArray, List.length_cons, List.length_nil, Nat.zero_add]
          generalize wr.drew = Wd at *
          refine wpAnyH_take (i := 0) (v := .int .i64 (p : Int)) rfl (by kernel_rfl) (by kernel_rfl) (by kernel_rfl) (fun _ _ _ h => h) (Or.inl ⟨by rfl, fun w' hS => by go_simp⟩) hHeld ?_
          simp only [Act.put, List.getElem_toArray, List.getElem_cons_zero, List.getElem_cons_succ, List.setIfInBounds_toArray, List.set_cons_zero, List.set_cons_succ]
          refine wpAnyH_take (i := 1) (v := .int .i64 (q : Int)) rfl (by kernel_rfl) (by kernel_rfl) (by kernel_rfl) (fun _ _ _ h => h) (Or.inl ⟨by rfl, fun w' hS => by go_simp⟩) hHeld ?_
          simp only [Act.put, List.getElem_toArray, List.getElem_cons_zero, List.getElem_cons_succ, List.setIfInBounds_toArray, List.set_cons_zero, List.set_cons_succ]
          refine wpAnyH_take (i := 2) (v := .pointer (some ⟨E.b, 0, none⟩)) rfl (by kernel_rfl) (by kernel_rfl) (by kernel_rfl) (fun _ _ _ h => h) (Or.inl ⟨by rfl, fun w' hS => by go_simp⟩) hHeld ?_
          simp only [Act.put, List.getElem_toArray, List.getElem_cons_zero, List.getElem_cons_succ, List.setIfInBounds_toArray, List.set_cons_zero, List.set_cons_succ]
          refine wpAnyH_take (i := 3) (v := .int .i64 (p : Int)) rfl (by kernel_rfl) (by kernel_rfl) (by kernel_rfl) (fun _ _ _ h => h) (Or.inl ⟨by rfl, fun w' hS => by go_simp⟩) hHeld ?_
          simp only [Act.put, List.getElem_toArray, List.getElem_cons_zero, List.getElem_cons_succ, List.setIfInBounds_toArray, List.set_cons_zero, List.set_cons_succ]
          refine wpAnyH_take (i := 4) (v := .int .i64 (q : Int)) rfl (by kernel_rfl) (by kernel_rfl) (by kernel_rfl) (fun _ _ _ h => h) (Or.inl ⟨by rfl, fun w' hS => by go_simp⟩) hHeld ?_
          simp only [Act.put, List.getElem_toArray, List.getElem_cons_zero, List.getElem_cons_succ, List.setIfInBounds_toArray, List.set_cons_zero, List.set_cons_succ]
          refine wpAnyH_take (i := 6) (v := .pointer (some ⟨sb, 52, none⟩)) rfl (by kernel_rfl) (by kernel_rfl) (by kernel_rfl) (fun _ _ _ h => h) (Or.inl ⟨by rfl, fun w' hS => by go_simp⟩) hHeld ?_
          simp only [Act.put, List.getElem_toArray, List.getElem_cons_zero, List.getElem_cons_succ, List.setIfInBounds_toArray, List.set_cons_zero, List.set_cons_succ]
          refine wpAnyH_take (i := 7) (v := .pointer (some ⟨sb, 52 + p * 17, none⟩)) rfl (by kernel_rfl) (by kernel_rfl) (by kernel_rfl) (fun _ _ _ h => h) (Or.inl ⟨by rfl, fun w' hS => by go_simp⟩) hHeld ?_
          simp only [Act.put, List.getElem_toArray, List.getElem_cons_zero, List.getElem_cons_succ, List.setIfInBounds_toArray, List.set_cons_zero, List.set_cons_succ]
          refine wpAnyH_ready (rs := [5]) (by kernel_rfl) (by simp) ?_
          refine AllReadyH.cons rfl (fun K hK => ?_) AllReadyH.nil
          go_simp
          refine (HOp.out _ p q HLdb.out).mono ?_
          rintro e Xa0 ⟨rfl, hb⟩
          refine hK.out _ _ trivial (fun hHeld => ?_)
          clear hK K
          try (simp only [Act.put, List.getElem_toArray, List.getElem_cons_zero, List.getElem_cons_succ, List.setIfInBounds_toArray, List.set_cons_zero, List.set_cons_succ])
          have HLe0 : Hid (Lk E (.slice a N N) sb p q q 3 W1 Xa0 rb f) := HLd.out.still hb
          clear hb
          refine wpAnyH_take (i := 8) (v := .pointer (some ⟨sb, 52 + p * 17 + q, none⟩)) rfl (by kernel_rfl) (by kernel_rfl) (by kernel_rfl) (fun _ _ _ h => h) (Or.inl ⟨by rfl, fun w' hS => by go_simp⟩) hHeld ?_
          simp only [Act.put, List.getElem_toArray, List.getElem_cons_zero, List.getElem_cons_succ, List.setIfInBounds_toArray, List.set_cons_zero, List.set_cons_succ]
          refine wpAnyH_ready (rs := [9]) (by kernel_rfl) (by simp) ?_
          refine AllReadyH.cons rfl (fun K hK => ?_) AllReadyH.nil
          refine step_stB rfl 4 _ _ rfl (g := sb) (p := 52 + p * 17 + q) rfl rfl HLe0.out.blk (hpc.out _ _ (by omega)) oneB rfl ?_
          refine hK.out _ _ trivial (fun hHeld => ?_)
          clear hK K
          have HLe : Hid (Lk E (.slice a N N) sb p (q + 1) q 3 W1 (Xa0.setCell ⟨sb, 52 + p * 17 + q, none⟩ (.bool (isP E (p : Int) (q : Int) && !E.cut p q))) rb (upv f (52 + p * 17 + q) (.bool (isP E (p : Int) (q : Int) && !E.cut p q)))) := HLe0.out.put (by omega) rfl (fun _ => (sg_open hlt hlq).symm) (fun j hj hji hd => by unfold dn at hd ⊢; omega) Hwz.out.1 Hwz.out.2
          generalize Xa0.setCell ⟨sb, 52 + p * 17 + q, none⟩ (.bool (isP E (p : Int) (q : Int) && !E.cut p q)) = Xa at *
          generalize upv f (52 + p * 17 + q) (.bool (isP E (p : Int) (q : Int) && !E.cut p q)) = fa2 at *
          clear HLe0
          refine wpAnyH_done (by kernel_rfl) ?_ _
          clear hHeld
          have HLf : Hid (Lk E (.slice a N N) sb p (q + 1) q 3 W1 Xa.drew rb fa2) := HLe.out.still (Below.refl _ _).drew
          have HLfb : Hid (Below rb w Xa.drew) := Hw1.out _ _ _ _ _ _ _ _ _ HLf.out
          clear HLe HLd HLdb HBd
          have Hzd : Hid (∀ X, Below rb w X → Calls Try.prog 41 #[.pointer (some ⟨E.b, 0, none⟩), .int .i64 (p : Int), .int .i64 (q : Int)] X fun e w' => e = .returned (.int .i64 (if isP E (p : Int) (q : Int) then E.dl p q else 0)) ∧ Below X.heap.size X w') := fun X hX => HDl.out X p q hX
          have Gzd : Hid (Value.int .i64 (if isP E (p : Int) (q : Int) then E.dl p q else 0) = sg E (.slice a N N) (341 + p * 17 + q)) := (sg_delay hlt hlq).symm
          generalize (if isP E (p : Int) (q : Int) then E.dl p q else 0) = zd at Hzd Gzd
          go_upto_region 12 with fail
          refine wp_region_held_drew (S := (fun _ => True)) (by kernel_rfl) trivial (fun hHeld => ?_)
          simp only [Act.put, List.size_toArray, List.length_cons, List.length_nil, Nat.zero_add]
          generalize Xa.drew = Wd2 at *
          refine wpAnyH_take (i := 0) (v := .int .i64 (p : Int)) rfl (by kernel_rfl) (by kernel_rfl) (by kernel_rfl) (fun _ _ _ h => h) (Or.inl ⟨by rfl, fun w' hS => by go_simp⟩) hHeld ?_
          simp only [Act.put, List.getElem_toArray, List.getElem_cons_zero, List.getElem_cons_succ, List.setIfInBounds_toArray, List.set_cons_zero, List.set_cons_succ]
          refine wpAnyH_take (i := 1) (v := .int .i64 (q : Int)) rfl (by kernel_rfl) (by kernel_rfl) (by kernel_rfl) (fun _ _ _ h => h) (Or.inl ⟨by rfl, fun w' hS => by go_simp⟩) hHeld ?_
          simp only [Act.put, List.getElem_toArray, List.getElem_cons_zero, List.getElem_cons_succ, List.setIfInBounds_toArray, List.set_cons_zero, List.set_cons_succ]
          refine wpAnyH_take (i := 2) (v := .pointer (some ⟨E.b, 0, none⟩)) rfl (by kernel_rfl) (by kernel_rfl) (by kernel_rfl) (fun _ _ _ h => h) (Or.inl ⟨by rfl, fun w' hS => by go_simp⟩) hHeld ?_
          simp only [Act.put, List.getElem_toArray, List.getElem_cons_zero, List.getElem_cons_succ, List.setIfInBounds_toArray, List.set_cons_zero, List.set_cons_succ]
          refine wpAnyH_take (i := 3) (v := .int .i64 (p : Int)) rfl (by kernel_rfl) (by kernel_rfl) (by kernel_rfl) (fun _ _ _ h => h) (Or.inl ⟨by rfl, fun w' hS => by go_simp⟩) hHeld ?_
          simp only [Act.put, List.getElem_toArray, List.getElem_cons_zero, List.getElem_cons_succ, List.setIfInBounds_toArray, List.set_cons_zero, List.set_cons_succ]
          refine wpAnyH_take (i := 4) (v := .int .i64 (q : Int)) rfl (by kernel_rfl) (by kernel_rfl) (by kernel_rfl) (fun _ _ _ h => h) (Or.inl ⟨by rfl, fun w' hS => by go_simp⟩) hHeld ?_
          simp only [Act.put, List.getElem_toArray, List.getElem_cons_zero, List.getElem_cons_succ, List.setIfInBounds_toArray, List.set_cons_zero, List.set_cons_succ]
          refine wpAnyH_take (i := 6) (v := .pointer (some ⟨sb, 341, none⟩)) rfl (by kernel_rfl) (by kernel_rfl) (by kernel_rfl) (fun _ _ _ h => h) (Or.inl ⟨by rfl, fun w' hS => by go_simp⟩) hHeld ?_
          simp only [Act.put, List.getElem_toArray, List.getElem_cons_zero, List.getElem_cons_succ, List.setIfInBounds_toArray, List.set_cons_zero, List.set_cons_succ]
          refine wpAnyH_take (i := 7) (v := .pointer (some ⟨sb, 341 + p * 17, none⟩)) rfl (by kernel_rfl) (by kernel_rfl) (by kernel_rfl) (fun _ _ _ h => h) (Or.inl ⟨by rfl, fun w' hS => by go_simp⟩) hHeld ?_
          simp only [Act.put, List.getElem_toArray, List.getElem_cons_zero, List.getElem_cons_succ, List.setIfInBounds_toArray, List.set_cons_zero, List.set_cons_succ]
          refine wpAnyH_ready (rs := [5]) (by kernel_rfl) (by simp) ?_
          refine AllReadyH.cons rfl (fun K hK => ?_) AllReadyH.nil
          go_simp
          refine (Hzd.out _ HLfb.out).mono ?_
          rintro e Xb0 ⟨rfl, hb⟩
          refine hK.out _ _ trivial (fun hHeld => ?_)
          clear hK K
          try (simp only [Act.put, List.getElem_toArray, List.getElem_cons_zero, List.getElem_cons_succ, List.setIfInBounds_toArray, List.set_cons_zero, List.set_cons_succ])
          have HLg0 : Hid (Lk E (.slice a N N) sb p (q + 1) q 3 W1 Xb0 rb fa2) := HLf.out.still hb
          clear hb
          refine wpAnyH_take (i := 8) (v := .pointer (some ⟨sb, 341 + p * 17 + q, none⟩)) rfl (by kernel_rfl) (by kernel_rfl) (by kernel_rfl) (fun _ _ _ h => h) (Or.inl ⟨by rfl, fun w' hS => by go_simp⟩) hHeld ?_
          simp only [Act.put, List.getElem_toArray, List.getElem_cons_zero, List.getElem_cons_succ, List.setIfInBounds_toArray, List.set_cons_zero, List.set_cons_succ]
          refine wpAnyH_ready (rs := [9]) (by kernel_rfl) (by simp) ?_
          refine AllReadyH.cons rfl (fun K hK => ?_) AllReadyH.nil
          refine step_stI rfl 3 _ _ rfl (g := sb) (p := 341 + p * 17 + q) rfl rfl HLg0.out.blk (hpc.out _ _ (by omega)) oneI rfl ?_
          refine hK.out _ _ trivial (fun hHeld => ?_)
          clear hK K
          have HLg : Hid (Lk E (.slice a N N) sb p (q + 1) (q + 1) 3 W1 (Xb0.setCell ⟨sb, 341 + p * 17 + q, none⟩ (.int .i64 zd)) rb (upv fa2 (341 + p * 17 + q) (.int .i64 zd))) := HLg0.out.put (by omega) rfl (fun _ => Gzd.out) (fun j hj hji hd => by unfold dn at hd ⊢; omega) Hwz.out.1 Hwz.out.2
          generalize Xb0.setCell ⟨sb, 341 + p * 17 + q, none⟩ (.int .i64 zd) = Xb at *
          generalize upv fa2 (341 + p * 17 + q) (.int .i64 zd) = fb2 at *
          clear HLg0
          refine wpAnyH_done (by kernel_rfl) ?_ _
          clear hHeld
          go_wp2
          exact ⟨⟨q + 1, fb2, by omega, by go_num, HLg.out⟩, by simp [intOf]; omega⟩
        · obtain rfl : q = 17 := by omega
          have HLn : Hid (Lk E (.slice a N N) sb (p + 1) 0 0 0 W1 wr rb f) := HL.out.cong (fun j hj hd => by unfold dn at hd ⊢; omega)
          go_wp2
          exact ⟨⟨p + 1, f, by omega, by go_num, HLn.out⟩, by simp [intOf]; omega⟩
    · obtain rfl : p = 17 := by omega
      have hall : ∀ i, i < 631 → f i = sg E (.slice a N N) i := fun i hi => HL.out.ok i hi (by unfold dn; omega)
      have HK1 : Hid (wr.heap[sb]? = some (.cells (rv 631 (sg E (.slice a N N))).toArray 58 (0, 0))) := by
        have := HL.out.blk
        rwa [rv_congr hall] at this
      have HKr : Hid (wr.rangeAt sb 0 (rv 631 (sg E (.slice a N N)))) := Ln.blk_range HK1.out
      have HR1 : Hid (wr.heap[rb]? = some (.cells (rv 631 zs).toArray 58 (0, 0))) := HL.out.rb
      have HBr : Hid (Below W1.heap.size W1 wr) := HL.out.b
      clear hall HL
      go_wp2_with (first
        | (refine Ln.load_mid 58 (.tmp 3) HKr.out _ Try.underlying58 rfl (by rw [HLs.out]; exact iSi) rfl rfl rfl ?_)
        | (refine wl_storeZ rfl 58 _ _ rfl (L := rv 631 (sg E (.slice a N N))) rfl rfl HR1.out (by rw [HLs.out]; exact iSi) (by rw [List.size_toArray, HLs.out, HLs.out]) (HSg.out a N N) ?_; intro W4 k4 kk4; have K4 : Hid (W4.heap[rb]? = some (.cells (rv 631 (sg E (.slice a N N))).toArray 58 (0, 0))) := k4; have KK4 : Hid (Mb.Kept wr W4 (fun j => j = rb)) := kk4; clear k4 kk4)
        | fail)
      (try simp only [Exit.inBlock, Exit.then])
      refine bodyPost_ret (res_cell rfl _ _ rb (rv 631 (sg E (.slice a N N))) Try.underlying58 rfl (by rw [HLs.out]; exact iSi) rfl (Ln.blk_range K4.out)) rfl ?_
      have hrW : rb < W0.heap.size := by have := S0.out; have := Hrb.out; omega
      have hkw : Kept W1 W4 (fun j => j = rb) := by
        have h1 : Kept W1 wr (fun j => j = rb) := Kept.ofBelow HBr.out _
        exact h1.trans ⟨KK4.out.os, KK4.out.tape, KK4.out.output, KK4.out.size, KK4.out.block⟩
      refine ⟨a, L, rfl, ?_, HD.out, ?_⟩
      · have hg := HG.out.keep hkw (fun j hj e => by subst e; omega)
        exact ⟨hg.len, own_lower hg.row (by have := Hrb.out; omega), fun i hi => ⟨own_lower (hg.byt i hi).1 (by have := Hrb.out; omega), (hg.byt i hi).2⟩, hg.ap⟩
      · rw [Hrb.out]
        have h1 := BW1.out
        have h2 := Hrb.out
        rw [← h2] at h1
        have h3 := bstep h1 HBr.out
        rw [h2] at h3
        have h4 := h3.size
        rw [h2] at h4
        exact h3.trans ((KK4.out.below h4 (fun k hk e => by have e' : k = rb := e; omega)))
end
end Go.Proofs.Ytnhhjelplmdloaa.Et
