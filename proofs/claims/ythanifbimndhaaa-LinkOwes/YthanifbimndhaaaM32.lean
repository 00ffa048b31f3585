import Derived.Test.YthanifbimndhaaaM30
import Derived.Test.YthanifbimndhaaaM31
namespace Go.Proofs.Ythanifbimndhaaa.Ln
set_option maxHeartbeats 40000000
open Go.RowKit Mb
set_option linter.unusedVariables false
set_option maxRecDepth 100000
set_option linter.unusedSimpArgs false
section
variable {w w' W : World} {B T : Nat} {M M' : Mx} {R R' : Rx} {E : En} {r : Rn}
structure TkB2 (w : World) (B T : Nat) (M : Mx) (R : Rx) (q : Int) (F1 F2 : Value) (Pre : World -> Prop) : Prop where
 out : Calls Try.prog 28 #[.pointer (some ⟨M.b, 0, none⟩), .int .i64 q, F1] w fun e w1 => ∃ (bl : List Bd) (a : Option Addr) (c : Nat) (v : Int), e = .returned (.tuple #[.slice a bl.length c, .int .i64 v]) /\ Kept w w1 M.own /\ ∀ D, Below w1.heap.size w1 D -> Pre D -> Calls Try.prog 40 #[.pointer (some ⟨R.b, 0, none⟩), .int .i64 q, F2] D fun e w2 => ∃ (a2 : Option Addr) (c2 : Nat), e = .returned (.tuple #[.slice a2 bl.length c2, .int .i64 v]) /\ TkP w w2 B T M R bl (.slice a bl.length c) (.slice a2 bl.length c2) /\ bl.length ≤ T + 1
theorem tkb_no2 {q v : Int} {F1 F2 : Value} {Pre : World -> Prop} (h : Duo w B T M R) (hT : T + 1 ≤ 1000) (h1 : Calls Try.prog 28 #[.pointer (some ⟨M.b, 0, none⟩), .int .i64 q, F1] w fun e w' => e = .returned (.tuple #[.slice none 0 0, .int .i64 v]) /\ Below w.heap.size w w') (h2 : ∀ D, Below w.heap.size w D -> Calls Try.prog 40 #[.pointer (some ⟨R.b, 0, none⟩), .int .i64 q, F2] D fun e w' => e = .returned (.tuple #[.slice none 0 0, .int .i64 v]) /\ Below D.heap.size D w') : TkB2 w B T M R q F1 F2 Pre :=
 ⟨h1.mono fun e w1 hx => ⟨[], none, 0, v, hx.1, Kept.ofBelow hx.2 _, fun D hb _ => (h2 D (bstep hx.2 hb)).mono fun e w2 hy => ⟨none, 0, hy.1, ⟨tkp_no ((DStep.refl h (bstep (bstep hx.2 hb) hy.2)).up (by omega) hT), Nat.zero_le _⟩⟩⟩⟩
theorem both_take2 (RN : RTakeNew) (h : Duo w B T M R) (hB : B ≤ w.heap.size) (hT : T + 1 ≤ 500) (q : Int) (t : Tg) (u : Int) {a1 a2 : Option Addr} {n c1 c2 : Nat} {bs : List Int} (h1 : Rd w a1 n c1 bs) : TkB2 w B T M R q (fmv t u a1 n c1) (fmv t u a2 n c2) (fun D => Rd D a2 n c2 bs /\ (0 < n -> In a2 fun b => b ≠ R.g)) := by
 cases hq : M.at q with
 | none => exact tkb_no2 h (by omega) (take_no h.m hq t u) fun D hb => rtake_no (h.r.still hb) (h.s.at_none hq) t u
 | some E =>
  obtain ⟨k, rfl, hk, he, hr, hp, hs⟩ := h.s.at_some hq
  cases hu : inR 1 4611686018427387904 u with
  | false => exact tkb_no2 h (by omega) (take_arg1 h.m hq t u hu) fun D hb => rtake_arg (h.r.still hb) hr t u (by rw [hu]; rfl)
  | true =>
   cases hn : inR 1 300 (n : Int) with
   | false => exact tkb_no2 h (by omega) (take_arg2 h.m hq t u hu hn) fun D hb => rtake_arg (h.r.still hb) hr t u (by rw [hu, hn]; rfl)
   | true =>
    by_cases ht : t = M.tag
    ·have hu' : 1 ≤ u /\ u ≤ 4611686018427387904 := by simp [inR] at hu; omega
     obtain ⟨m, rfl⟩ : ∃ m : Nat, u = (m : Int) := ⟨u.toNat, by omega⟩
     have hm1 : 1 ≤ m := by omega
     have hm : m ≤ 4611686018427387904 := by omega
     have htR : t = R.tag := by rw [ht, h.s.tag]
     have e2 : E.i.p = (R.es k).gt := hs.ip
     have e3 := h.s.win
     have hkR : k < R.n := by rw [<- h.s.n]; exact hk
     by_cases hf : E.i.p + M.win < m
     ·exact tkb_no2 h (by omega) (take_far h.m hq t hm1 hm hn ht hf) fun D hb => rtake_far (h.r.still hb) hr t hm1 hm hn htR (by omega)
     ·by_cases hf1 : m ≤ E.i.p
      ·refine ⟨(take_old1 h.m hq t hm1 hm hn ht hf1).mono fun e w1 hx => ⟨[], none, 0, 0, hx.1, (hx.2.to h.m he).kept, fun D hb hpre => ?_⟩⟩
       have ms := hx.2.to h.m he
       refine (rtake_old1 (R_keep h ms.kept hb) hr t hm1 hm hn htR (by omega)).mono fun e w2 hy => ⟨none, 0, hy.1, ?_⟩
       obtain ⟨k', hk', _, rst⟩ := hy.2
       obtain rfl : k' = k := by omega
       exact ⟨tkp_no ((DStep.of h ms hb rst (h.s.put hk hp hs.owe1) rfl).up (by omega) (by omega)), Nat.zero_le _⟩
      ·have hold := hs.old m
       cases hh : E.i.f m with
       | some b0 =>
        have hib : (E.pu.ib m).isSome = true := by show ((E.i.f m).map Bd.bs).isSome = true; rw [hh]; rfl
        rw [hib] at hold
        obtain ⟨jx, hjx⟩ := Option.isSome_iff_exists.1 hold.symm
        refine ⟨(take_old2 h.m hq t hm1 hm hn ht (by omega) (by omega) hh).mono fun e w1 hx => ⟨[], none, 0, 0, hx.1, (hx.2.to h.m he).kept, fun D hb hpre => ?_⟩⟩
        have ms := hx.2.to h.m he
        refine (rtake_old2 (R_keep h ms.kept hb) hr t hm1 hm hn htR (by omega) (by omega) hjx).mono fun e w2 hy => ⟨none, 0, hy.1, ?_⟩
        obtain ⟨k', hk', _, rst⟩ := hy.2
        obtain rfl : k' = k := by omega
        exact ⟨tkp_no ((DStep.of h ms hb rst (h.s.put hk hp hs.owe1) rfl).up (by omega) (by omega)), Nat.zero_le _⟩
       | none =>
        have hib : (E.pu.ib m).isSome = false := by show ((E.i.f m).map Bd.bs).isSome = false; rw [hh]; rfl
        rw [hib] at hold
        have hjx : eaI (R.es k).ea m = none := by simpa using hold.symm
        have hl : bs.length = n := h1.len
        subst hl
        refine ⟨(take_new h.m hB hq t h1 hm1 hm hn ht (by omega) (by omega) hh).mono fun e w1 hx => ?_⟩
        obtain ⟨E', bl, a, c, he1, est, hpu, hbl, hbd, hnd, hrow⟩ := hx.out
        have ms := est.to h.m he
        refine ⟨bl, a, c, 0, he1, ms.kept, fun D hb hpre => ?_⟩
        refine (RN D B T R (R.es k) _ t m a2 bs.length c2 bs (R_keep h ms.kept hb) hr hpre.1 hm1 hm hn htR (by omega) (by omega) hjx (Nat.le_trans hB (Nat.le_trans ms.kept.size hb.size)) hT hpre.2).mono fun e w2 hy => ?_
        obtain ⟨k', hk', _, hF⟩ := hy
        have hk2 : k' = k := by omega
        rw [hk2] at hF
        obtain ⟨y, m', o, v8, v10, hyb, he2, rst, hro, hol, hat, hN, hzk, hzl⟩ := hF.out
        have htk := hs.took (y := y) (o := o) (v10 := v10) (u := m) (m := m') (by omega) (by omega) hjx hol hat hN
        rw [hyb] at htk
        have hbo : o.map Bn.bs = bl.map Bd.bs := by rw [<- htk.1, hbl]
        have hlen : o.length = bl.length := by have := congrArg List.length hbo; simpa using this
        have hm' : m' = bl.length := by omega
        subst hm'
        obtain ⟨a2', c2', hv8⟩ := row_shape' hro
        subst hv8
        have hD := DStep.of h ms hb rst (h.s.put hk hp (by rw [hpu]; exact htk.2)) rfl
        have hsz : w1.heap.size ≤ D.heap.size := hb.size
        have hmD : ∀ j, M.own j ∨ w.heap.size ≤ j -> ¬ R.own j := fun j hj hr2 => hj.elim (fun h3 => h.ap j h3 hr2) (fun h3 => by have := h.r.lt hr2; omega)
        have hnr : ∀ j, j < w1.heap.size -> (M.own j ∨ w.heap.size ≤ j) -> ¬ (R.put k _).own j := fun j hj ho hr2 => by
         rcases rst.own j hr2 with h3 | h3
         ·exact hmD j ho h3
         ·omega
        have hbnd : bl.length ≤ T + 1 := by
         have h9 := (rst.ok.el k hkR).s3
         have e9 : (R.put k { R.es k with ow := true, ev := v10, ea := flt ((R.es k).gt + bl.length) ((R.es k).ea ++ [(m, y)]), gt := (R.es k).gt + bl.length }).es k = { R.es k with ow := true, ev := v10, ea := flt ((R.es k).gt + bl.length) ((R.es k).ea ++ [(m, y)]), gt := (R.es k).gt + bl.length } := upd_same _ _ _
         rw [e9] at h9
         have h8 : (R.es k).gt + bl.length + _ ≤ T + 1 := h9
         omega
        refine ⟨a2', c2', he2, ⟨_, _, o, hD, fun b hb1 => ?_, hnd, ?_, fun j hj => ?_, own_lower hro (Nat.le_trans ms.kept.size hb.size), hzk, hbo, fun z hz b hb1 e => ?_⟩, hbnd⟩
        ·obtain ⟨b1, b2, b3⟩ := hbd b hb1
         have hMo : M.own b.k ∨ w.heap.size ≤ b.k := b3.imp (fun h3 => .inr (.inr ⟨k, E, he, h3⟩)) id
         refine ⟨(b1.still hb).keep rst.kept (hmD _ hMo), put_out h.m he ms b1.bk rfl b2 b3, hnr _ b1.bk.lt hMo, hMo⟩
        ·refine rst.kept.owns (own_still hrow hb) fun j hj hr2 => ?_
         exact hmD j (.inr (World.ownsRow.lt hrow j hj).1) hr2
        ·have h3 := World.ownsRow.lt hrow j hj
         obtain ⟨C, hC⟩ := own_ty hrow hj
         exact ⟨ms.ok.ne_t hC (by decide) (by decide) (by decide) (by decide) (by decide), hnr j h3.2 (.inr h3.1)⟩
        ·obtain ⟨b1, b2, b3⟩ := hbd b hb1
         have hMo : M.own b.k ∨ w.heap.size ≤ b.k := b3.imp (fun h3 => .inr (.inr ⟨k, E, he, h3⟩)) id
         rcases hzl z hz with ⟨x, hx1, hx2⟩ | hz1
         ·refine hmD b.k hMo (.inr (.inr ⟨k, hkR, .inr (.inr (.inr ⟨x, hx1, ?_⟩))⟩))
          rw [hx2]
          exact e.symm
         ·have := b1.bk.lt
          have e2 : z.k = b.k := e
          have h9 : b.k < w1.heap.size := this
          omega
    ·have hu' : 1 ≤ u /\ u ≤ 4611686018427387904 := by simp [inR] at hu; omega
     obtain ⟨m, rfl⟩ : ∃ m : Nat, u = (m : Int) := ⟨u.toNat, by omega⟩
     exact tkb_no2 h (by omega) (take_tag h.m hq t _ hu hn ht) fun D hb => rtake_tag (h.r.still hb) hr t (by omega) (by omega) hn (by rw [<- h.s.tag]; exact ht)
theorem rnew_all : RTakeNew := fun w B T R r q t u ao n c bs h hq hrd hu1 hu hn ht hf hf2 hh hB hT hap => rtake_new h hq t hrd hu1 hu hn ht hf hf2 hh hB hT hap
end
section
variable {w w' W : World} {B T : Nat} {Y : Pl}
theorem slice_hi {ao : Option Addr} {n c k : Nat} (hac : k ≤ c) (X : World) : (Instr.slice 40 (.slice ao n c) none (some (.int .i64 (k : Int))) none).run Try.prog X = .ok (.slice ao k c) X := by
 have he : Try.prog.underlying 40 = some (.slice (Try.prog.elem 40)) := by kernel_rfl
 have hs : ∀ X : World, (sizeOf (Try.prog.elem 40)).run Try.prog X = .ok 1 X := fun X => by kernel_rfl
 have h1 : (0 : Int) ≤ (k : Int) := Int.natCast_nonneg _
 have h2 : (k : Int) ≤ (c : Int) := by omega
 rw [run_slice_h (P := Try.prog) X 40 ao n c he .i64 (k : Int) h1 h2, hs X]
 simp only [Result.andThen, sliced, Int.toNat_natCast, Nat.zero_mul, Nat.sub_zero]
 by_cases hc : c = 0
 ·simp [hc]
 ·cases ao with
  | none => simp [hc]
  | some x => simp [hc, Addr.add]
theorem bstp2 {ops : Array Oper} {rest : List Oper} {o : Oper} {a : Act} {Q : Exit -> Act -> World -> Prop} (t : TypeId) (i0 i1 : Nat) (x0 x1 : Operand) (v0 v1 : Value) (cells : Array Value) (hb : Try.prog.built t [(i0, v0), (i1, v1)] = some cells) (h0 : a.eval x0 = v0) (h1 : a.eval x1 = v1) (ho : o.op = .build t #[(i0, x0), (i1, x1)]) (hg : o.guard = none) (h : wpList Try.prog ops Q rest (a.put o.dst (.agg cells)) w) : wpList Try.prog ops Q (o :: rest) a w := by
 have e : (((#[(i0, x0), (i1, x1)] : Array (Nat × Operand)).map fun (i, x) => (i, a.eval x)).toList) = [(i0, v0), (i1, v1)] := by simp [h0, h1]
 refine wpList_build hg t _ ho (by rw [e, hb]; rfl) ?_
 rw [e, hb]
 exact h
theorem bstp3 {ops : Array Oper} {rest : List Oper} {o : Oper} {a : Act} {Q : Exit -> Act -> World -> Prop} (t : TypeId) (i0 i1 i2 : Nat) (x0 x1 x2 : Operand) (v0 v1 v2 : Value) (cells : Array Value) (hb : Try.prog.built t [(i0, v0), (i1, v1), (i2, v2)] = some cells) (h0 : a.eval x0 = v0) (h1 : a.eval x1 = v1) (h2 : a.eval x2 = v2) (ho : o.op = .build t #[(i0, x0), (i1, x1), (i2, x2)]) (hg : o.guard = none) (h : wpList Try.prog ops Q rest (a.put o.dst (.agg cells)) w) : wpList Try.prog ops Q (o :: rest) a w := by
 have e : (((#[(i0, x0), (i1, x1), (i2, x2)] : Array (Nat × Operand)).map fun (i, x) => (i, a.eval x)).toList) = [(i0, v0), (i1, v1), (i2, v2)] := by simp [h0, h1, h2]
 refine wpList_build hg t _ ho (by rw [e, hb]; rfl) ?_
 rw [e, hb]
 exact h
theorem YsG.pre {w0 : World} {g : Nat} (hb : Below w0.heap.size w0 w) (hB : B ≤ w0.heap.size) (h : YsG w w' B T Y g) : YsG w0 w' B T Y g := by
 obtain ⟨Y', h1, h2, h3, h4, h5⟩ := h.out
 exact ⟨Y', h1, h2, h3, (hb.mono hB).trans h4, h5⟩
end
section
variable {w w' W : World} {B T : Nat} {M M' : Mx} {R R' : Rx} {E : En} {r : Rn}
theorem rreset_ok2 (h : R.Ok w B T) (hB : B ≤ w.heap.size) (t : Tg) {ao : Option Addr} {k c : Nat} {xs : List Int} (hr : RdI w ao k c xs) (hap : 0 < k -> In ao fun b => b ≠ R.b) (hk : k ≤ 1000000000000000) (ht : t.whole = true) (ho : okP R.n R.self 0 xs = true) : Calls Try.prog 35 #[.pointer (some ⟨R.b, 0, none⟩), .agg #[.int .i64 t.e, .int .i64 t.l, .int .i64 t.i, .int .i64 t.c], .slice ao k c] w fun e w' => e = .returned (.int .i64 0) /\ ∃ g c', Rstep w w' R { R with tag := t, g := g, c := c', es := rnp xs } B T := by
 generalize hW : w.alloc (.cells #[.int .i64 t.e, .int .i64 t.l, .int .i64 t.i, .int .i64 t.c] 39) = W
 have hbW := bW0 hW
 have hblk := hQ0 hW
 have HRg : Hid (∀ D : World, D.heap[w.heap.size]? = some (.cells #[.int .i64 t.e, .int .i64 t.l, .int .i64 t.i, .int .i64 t.c] 39 (0, 0)) -> D.rangeAt w.heap.size 0 t.vs) := fun D hD => (show World.rangeAt _ _ _ _ from blk_range (L := t.vs) hD)
 have HRg0 : Hid (W.rangeAt w.heap.size 0 t.vs) := HRg.out W hblk
 have Hblk : Hid (W.heap[w.heap.size]? = some (.cells #[.int .i64 t.e, .int .i64 t.l, .int .i64 t.i, .int .i64 t.c] 39 (0, 0))) := hblk
 have HbW : Hid (Below w.heap.size w W) := hbW
 have HWh : Hid (Calls Try.prog 78 #[.agg #[.int .i64 t.e, .int .i64 t.l, .int .i64 t.i, .int .i64 t.c]] W fun e w' => e = .returned (.bool true) /\ Below W.heap.size W w') := (show Calls _ _ _ _ _ from by have := rwhole_any (w := W) t; rw [ht] at this; exact this)
 have HR : Hid (R.Ok w B T) := h
 have Hrd : Hid (RdI w ao k c xs) := hr
 have Hap : Hid (0 < k -> In ao fun b => b ≠ R.b) := hap
 have HOk : Hid (okP R.n R.self 0 xs = true) := ho
 clear h ht hblk hbW hr ho hap
 go_enter Try.func35, Try.ntmps35
 go_wp2_with (first | (refine at_load 39 (.tmp 4) rfl ?_; refine load_mid 39 (.tmp 4) HRg0.out _ Try.underlying39 rfl info_id rfl rfl rfl ?_) | (go_at_call 78; refine HWh.out.mono ?_) | fail)
 rintro e w1 ⟨rfl, hb1⟩
 have HR1 : Hid (R.Ok w1 B T) := (HR.out.still HbW.out).still hb1
 have Hb1 : Hid (Below W.heap.size W w1) := hb1
 clear hb1 HWh
 go_wp2
 go_loopw [7, 8] (fun v7 v8 wr => ∃ (i : Nat) (last : Int), i ≤ k /\ v7 = .int .i64 last /\ v8 = .int .i64 (i : Int) /\ -1 ≤ last /\ last < 16 /\ Hid (okP R.n R.self (last + 1) (xs.drop i) = true) /\ Hid (Below w1.heap.size w1 wr)) (fun _ v8 _ => k - (intOf v8).toNat)
 case atStart => exact ⟨0, -1, by omega, rfl, rfl, by omega, by omega, (show _ = _ from HOk.out), Below.refl _ _⟩
 case round =>
  obtain ⟨i, last, hi, rfl, rfl, hl1, hl2, hok, hb⟩ := hrel
  have hRr := HR1.out.still hb.out
  by_cases hlt : i < k
  ·have i1 : (0 : Int) ≤ (i : Int) := Int.natCast_nonneg _
   have i2 : (i : Int) < (k : Int) := by omega
   obtain ⟨pb, po, hao, hc⟩ := (Hrd.out.still (bstep (bstep HbW.out Hb1.out) hb.out)).at_'.resolve_left (by omega)
   have p0 := hc i hlt
   obtain ⟨x, hx⟩ : ∃ x, xs.getD i 0 = x := ⟨_, rfl⟩
   rw [hx] at p0
   have hdr : xs.drop i = x :: xs.drop (i + 1) := by
    have hil : i < xs.length := by rw [Hrd.out.len]; exact hlt
    rw [List.drop_eq_getElem_cons hil, <- hx]
    simp [List.getD, hil]
   have hok2 := hok.out
   rw [hdr] at hok2
   simp only [okP] at hok2
   have hce := hRr.n1
   have p1 : wr.cell? ⟨R.b, 0, none⟩ = some (.int .i64 (R.n : Int)) := hRr.cc 0 rfl
   have p2 : wr.cell? ⟨R.b, 1, none⟩ = some (.int .i64 (R.self : Int)) := hRr.cc 1 rfl
   rw [hao]
   have Hao : Hid (ao = some ⟨pb, po, none⟩) := hao
   have Hok2 : Hid ((inR (last + 1) ((R.n : Int) - 1) x && !(x == (R.self : Int)) && okP R.n R.self (x + 1) (xs.drop (i + 1))) = true) := hok2
   have HBr : Hid (Below w.heap.size w wr) := (show Below _ _ _ from bstep (bstep HbW.out Hb1.out) hb.out)
   clear hc hx hdr hok2 hok hRr hao
   have h5 := Hok2.out
   simp only [Bool.and_eq_true, inR, decide_eq_true_eq, Bool.not_eq_true', beq_eq_false_iff_ne] at h5
   obtain ⟨⟨⟨c1', c2'⟩, c3⟩, h6⟩ := h5
   have c1 : ¬ x ≤ last := by omega
   have c2 : ¬ x ≥ (R.n : Int) := by omega
   have HN : Hid (okP R.n R.self (x + 1) (xs.drop (i + 1)) = true) := h6
   have p0' := bA (dB wr) p0
   have Hbd : Hid (Below w1.heap.size w1 wr.drew) := (show Below _ _ _ from bstep hb.out (dB wr))
   clear h6 c1' c2'
   go_wp2
   refine wp_region_held_drew (S := (fun w' => w'.cell? ⟨pb, po + i, none⟩ = some (.int .i64 x) /\ w'.cell? ⟨R.b, 0, none⟩ = some (.int .i64 (R.n : Int)) /\ w'.cell? ⟨R.b, 1, none⟩ = some (.int .i64 (R.self : Int)))) (by kernel_rfl) ⟨(dW0 p0), (dW0 p1), (dW0 p2)⟩ (fun hH => ?_)
   simp only [Act.put, lA, lC, lN, zA]
   refine wG 0 (.slice (some ⟨pb, po, none⟩) k c) rfl hH ?_
   simp only [aP, gA, gZ, gC, sA, sZ, sC]
   refine wG 1 (.int .i64 (i : Int)) rfl hH ?_
   simp only [aP, gA, gZ, gC, sA, sZ, sC]
   refine wG 2 (.pointer (some ⟨pb, po + i, none⟩)) rfl hH ?_
   simp only [aP, gA, gZ, gC, sA, sZ, sC]
   refine wL 3 (.int .i64 x) rfl hH ?_
   simp only [aP, gA, gZ, gC, sA, sZ, sC]
   refine wG 4 (.int .i64 last) rfl hH ?_
   simp only [aP, gA, gZ, gC, sA, sZ, sC]
   refine wX 5 (.bool false) rfl (Or.inl ⟨by rfl, fun w' hS => by (go_simp <;> omega)⟩) hH ?_
   simp only [aP, gA, gZ, gC, sA, sZ, sC]
   refine wG 6 (.bool false) rfl hH ?_
   simp only [aP, gA, gZ, gC, sA, sZ, sC]
   refine wK 7 (.slice (some ⟨pb, po, none⟩) k c) rfl hH ?_
   simp only [aP, gA, gZ, gC, sA, sZ, sC]
   refine wK 8 (.int .i64 (i : Int)) rfl hH ?_
   simp only [aP, gA, gZ, gC, sA, sZ, sC]
   refine wK 9 (.pointer (some ⟨pb, po + i, none⟩)) rfl hH ?_
   simp only [aP, gA, gZ, gC, sA, sZ, sC]
   refine wM 10 (.int .i64 x) rfl hH ?_
   simp only [aP, gA, gZ, gC, sA, sZ, sC]
   refine wK 11 (.pointer (some ⟨R.b, 0, none⟩)) rfl hH ?_
   simp only [aP, gA, gZ, gC, sA, sZ, sC]
   refine wK 12 (.pointer (some ⟨R.b, 0, none⟩)) rfl hH ?_
   simp only [aP, gA, gZ, gC, sA, sZ, sC]
   refine wK 13 (.pointer (some ⟨R.b, 0, none⟩)) rfl hH ?_
   simp only [aP, gA, gZ, gC, sA, sZ, sC]
   refine wM 14 (.int .i64 (R.n : Int)) rfl hH ?_
   simp only [aP, gA, gZ, gC, sA, sZ, sC]
   refine wX 15 (.bool false) rfl (Or.inl ⟨by kernel_rfl, fun w' hS => by (go_simp <;> omega)⟩) hH ?_
   simp only [aP, gA, gZ, gC, sA, sZ, sC]
   refine wG 16 (.bool false) rfl hH ?_
   simp only [aP, gA, gZ, gC, sA, sZ, sC]
   refine wG 17 (.bool false) rfl hH ?_
   simp only [aP, gA, gZ, gC, sA, sZ, sC]
   refine wK 18 (.slice (some ⟨pb, po, none⟩) k c) rfl hH ?_
   simp only [aP, gA, gZ, gC, sA, sZ, sC]
   refine wK 19 (.int .i64 (i : Int)) rfl hH ?_
   simp only [aP, gA, gZ, gC, sA, sZ, sC]
   refine wK 20 (.pointer (some ⟨pb, po + i, none⟩)) rfl hH ?_
   simp only [aP, gA, gZ, gC, sA, sZ, sC]
   refine wM 21 (.int .i64 x) rfl hH ?_
   simp only [aP, gA, gZ, gC, sA, sZ, sC]
   refine wK 22 (.pointer (some ⟨R.b, 0, none⟩)) rfl hH ?_
   simp only [aP, gA, gZ, gC, sA, sZ, sC]
   refine wK 23 (.pointer (some ⟨R.b, 0, none⟩)) rfl hH ?_
   simp only [aP, gA, gZ, gC, sA, sZ, sC]
   refine wK 24 (.pointer (some ⟨R.b, 1, none⟩)) rfl hH ?_
   simp only [aP, gA, gZ, gC, sA, sZ, sC]
   refine wM 25 (.int .i64 (R.self : Int)) rfl hH ?_
   simp only [aP, gA, gZ, gC, sA, sZ, sC]
   refine wX 26 (.bool false) rfl (Or.inl ⟨by kernel_rfl, fun w' hS => by (go_simp <;> omega)⟩) hH ?_
   simp only [aP, gA, gZ, gC, sA, sZ, sC]
   refine wG 27 (.bool false) rfl hH ?_
   simp only [aP, gA, gZ, gC, sA, sZ, sC]
   refine wpAnyH_done (by kernel_rfl) ?_ _
   clear hH
   generalize wr.drew = wd at *
   clear hb
   go_wp2
   exact ⟨⟨i + 1, x, by omega, rfl, by go_num, by omega, by omega, HN, Hbd⟩, by simp [intOf]; omega⟩
  ·have i2 : ¬ (i : Int) < (k : Int) := by omega
   generalize wr = D at *
   have hbb := hb.out.block w.heap.size (by have := Hb1.out.size; have := lt_heap Hblk.out; omega)
   have hbb1 := Hb1.out.block w.heap.size (lt_heap Hblk.out)
   have HRr : Hid (D.rangeAt w.heap.size 0 t.vs) := HRg.out D (by rw [hbb, hbb1]; exact Hblk.out)
   have HRR : Hid (R.Ok D B T) := hRr
   have HTh : Hid (D.there R.b 4 4) := fun j hj => (show _ /\ _ from ⟨by
    rw [bC hRr.blk]
    have h4 : j = 0 ∨ j = 1 ∨ j = 2 ∨ j = 3 := by omega
    rcases h4 with rfl | rfl | rfl | rfl <;> rfl, frozen_of_row D _ _ _ _ hRr.blk⟩)
   have HwD : Hid (Below w.heap.size w D) := (show Below _ _ _ from bstep (bstep HbW.out Hb1.out) hb.out)
   have hF := RsR.first (t := t) (xs := xs) hRr
   generalize hV : D.setCells R.b 4 t.vs = V at hF
   have HF0 : Hid (RsR D V R t xs 0 (.slice none 0 0)) := hF
   have hbD : R.b < D.heap.size := lt_heap hRr.blk
   clear hRr hok hbb hbb1 hF
   go_wp2_with (first | (refine at_load 39 (.tmp 4) rfl ?_; refine load_mid 39 (.tmp 4) HRr.out _ Try.underlying39 rfl info_id rfl rfl rfl ?_) | (refine at_store 39 (.tmp 57) (.tmp 55) rfl ?_; refine wl_storeL rfl 39 (.tmp 57) (.tmp 55) rfl (L := t.vs) rfl rfl HTh.out info_id (tg_one _) ?_; rw [hV]) | fail)
   go_loopw [9, 10, 11, 12] (fun v9 v10 _ _ wx => ∃ q : Nat, q ≤ R.n /\ v10 = .int .i64 (q : Int) /\ Hid (RsR D wx R t xs q v9)) (fun _ v10 _ _ _ => R.n - (intOf v10).toNat)
   case atStart => exact ⟨0, by omega, rfl, HF0⟩
   case round =>
    clear HF0
    obtain ⟨q, hq, rfl, hS⟩ := hrel
    have hn16 := HRR.out.n1
    obtain ⟨va, vc, hv⟩ := row_shape' hS.out.row
    rw [hv] at hS
    rw [hv]
    clear hv
    by_cases hlt2 : q < R.n
    ·have j2 : (q : Int) < (R.n : Int) := by omega
     have r0 : wr.cell? ⟨R.b, 0, none⟩ = some (.int .i64 (R.n : Int)) := bC hS.out.blk 0
     have hI := hS.out.inn
     have HT2 : Hid ((wr.alloc (.cells z6e.toArray 107)).there wr.heap.size 0 6) := new_there wr _ _ rfl
     generalize hX : (wr.alloc (.cells z6e.toArray 107)).setCells wr.heap.size 0 z6e = X1 at hI
     have HI0 : Hid (RsI D X1 R t xs q (.slice va q vc) wr.heap.size 0) := hI
     clear hI hS
     go_wp2_with (first | (refine at_store 107 (.tmp 11) (.tmp 66) rfl ?_; refine wl_storeL rfl 107 (.tmp 11) (.tmp 66) rfl (L := z6e) rfl rfl HT2.out info_end (end_one false) ?_; rw [hX]) | fail)
     obtain ⟨eb, heb⟩ : ∃ b, wr.heap.size = b := ⟨_, rfl⟩
     rw [heb] at HI0
     rw [heb]
     clear HT2 hX heb r0
     go_loopw [12] (fun v12 wy => ∃ j : Nat, j ≤ k /\ v12 = .int .i64 (j : Int) /\ Hid (RsI D wy R t xs q (.slice va q vc) eb j)) (fun v12 _ => k - (intOf v12).toNat)
     case atStart => exact ⟨0, by omega, rfl, HI0⟩
     case round =>
      clear HI0
      obtain ⟨j, hj, rfl, hI⟩ := hrel
      by_cases hjk : j < k
      ·have m1 : (0 : Int) ≤ (j : Int) := Int.natCast_nonneg _
       have m2 : (j : Int) < (k : Int) := by omega
       obtain ⟨pb, po, hao, hc⟩ := (Hrd.out.still HwD.out).at_'.resolve_left (by omega)
       have p0 := kC hI.out.rr.kept (Hap.out (by omega) pb po hao) (hc j hjk)
       obtain ⟨x, hx⟩ : ∃ x, xs[j]? = some x := ⟨_, List.getElem?_eq_getElem (by rw [Hrd.out.len]; exact hjk)⟩
       have hx2 : xs.getD j 0 = x := by simp [List.getD, hx]
       rw [hx2] at p0
       rw [hao]
       clear hc hx2 hao
       by_cases hxq : x = (q : Int)
       ·have e0 : wr.cell? ⟨eb, 0, none⟩ = some (.bool (decide ((q : Int) ∈ xs.take j))) := bC hI.out.ec 0
        have f0 := frozen_of_row wr eb 0 _ _ hI.out.ec
        rw [hxq] at hx p0
        have HY : Hid (RsI D (wr.setCell ⟨eb, 0, none⟩ (.bool true)) R t xs q (.slice va q vc) eb (j + 1)) := hI.out.yes hbD hx
        clear hI hx hxq
        go_wp2
        exact ⟨⟨j + 1, by omega, by go_num, HY⟩, by simp [intOf]; omega⟩
       ·have hne : (x == (q : Int)) = false := by rw [beq_eq_false_iff_ne]; exact hxq
        have HY : Hid (RsI D wr R t xs q (.slice va q vc) eb (j + 1)) := hI.out.no hx hxq
        clear hI hx hxq
        go_wp2
        exact ⟨⟨j + 1, by omega, by go_num, HY⟩, by simp [intOf]; omega⟩
      ·have m2 : ¬ (j : Int) < (k : Int) := by omega
       have htk : xs.take j = xs := List.take_of_length_le (by rw [Hrd.out.len]; omega)
       have hec := hI.out.ec
       rw [htk] at hec
       obtain ⟨pe, hpe⟩ : ∃ b, decide ((q : Int) ∈ xs) = b := ⟨_, rfl⟩
       have hcs : (rnp xs q).cs = [.bool pe, .slice none 0 0, .int .i64 0, .int .i64 0, .slice none 0 0, .bool false] := by simp [rnp, Rn.cs, hpe]
       rw [hcs] at hec
       have HRe : Hid (wr.rangeAt eb 0 [.bool pe, .slice none 0 0, .int .i64 0, .int .i64 0, .slice none 0 0, .bool false]) := blk_range hec
       have HOw : Hid (wr.ownsRow D.heap.size 107 6 (.slice va q vc) q (rs xs q)) := hI.out.rr.row
       have HDs : Hid (D.heap.size ≤ wr.heap.size) := (show _ ≤ _ from hI.out.rr.kept.size)
       have HI : Hid (RsI D wr R t xs q (.slice va q vc) eb j) := hI.out
       have Hcs : Hid ((rnp xs q).cs = [.bool pe, .slice none 0 0, .int .i64 0, .int .i64 0, .slice none 0 0, .bool false]) := hcs
       clear hI htk hec hpe hcs
       go_wp2_with (first | (refine at_load 107 (.tmp 11) rfl ?_; refine load_mid 107 (.tmp 11) HRe.out _ Try.underlying107 rfl info_end rfl rfl rfl ?_) | (at_builtin; refine wl_pushE rfl _ _ rfl wr _ _ [.bool pe, .slice none 0 0, .int .i64 0, .int .i64 0, .slice none 0 0, .bool false] rfl (end_one pe) rfl q HOw.out rfl rfl (by omega) HDs.out ?_) | fail)
       intro g cap w4 ho hkk hg hl
       have HN : Hid (RsR D w4 R t xs (q + 1) (.slice (some ⟨g, 0, none⟩) (q + 1) cap)) := HI.out.next hbD (by rw [Hcs.out]; exact ho) hkk
       clear ho hkk hg hl HI HOw HRe
       go_wp2
       exact ⟨⟨q + 1, by omega, by go_num, HN⟩, by simp [intOf]; omega⟩
    ·have hqn : q = R.n := by omega
     have j2 : ¬ (q : Int) < (R.n : Int) := by omega
     rw [hqn] at hS
     have r0 : wr.cell? ⟨R.b, 0, none⟩ = some (.int .i64 (R.n : Int)) := bC hS.out.blk 0
     have r8 : wr.cell? ⟨R.b, 8, none⟩ = some (.slice (some ⟨R.g, 0, none⟩) R.n R.c) := bC hS.out.blk 8
     have f8 := frozen_of_row wr R.b 8 _ _ hS.out.blk
     obtain ⟨g, c', hv, hst⟩ := RsR.fin HRR.out (Nat.le_trans hB HwD.out.size) hS.out
     have HZ : Hid (Rstep w (wr.setCell ⟨R.b, 8, none⟩ (.slice va q vc)) R { R with tag := t, g := g, c := c', es := rnp xs } B T) := (show Rstep _ _ _ _ _ _ from by rw [hqn]; exact (Rstep.below HR.out HwD.out).trans hst)
     clear hS hst hv hqn
     go_wp2
     go_ret
     exact ⟨rfl, g, c', HZ.out⟩
theorem both_reset2 (h : Duo w B T M R) (hB : B ≤ w.heap.size) (hT : T + 1 ≤ 1000) (t : Tg) {a1 a2 : Option Addr} {k c1 c2 : Nat} {xs : List Int} (h1 : RdI w a1 k c1 xs) (hap : In a1 fun b => ¬ M.own b) (hk : k ≤ 1000000000000000) (h2 : ∀ D, Kept w D M.own -> RdI D a2 k c2 xs /\ (0 < k -> In a2 fun b => b ≠ R.b)) : Both 25 35 [.agg #[.int .i64 t.e, .int .i64 t.l, .int .i64 t.i, .int .i64 t.c], .slice a1 k c1] [.agg #[.int .i64 t.e, .int .i64 t.l, .int .i64 t.i, .int .i64 t.c], .slice a2 k c2] w B T M R (fun _ => True) := by
 cases ht : t.whole with
 | false => exact both_no h hT (reset_tag t ht) fun D hb => rreset_tag (h.r.still hb) t ht
 | true =>
  cases ho : okP M.n M.self 0 xs with
  | false => exact both_no h hT (reset_arg h.m t h1 hk ht ho) fun D hb => rreset_arg (h.r.still hb) t (h2 D (Kept.ofBelow hb _)).1 hk ht (by rw [<- h.s.n, <- h.s.self]; exact ho)
  | true =>
   refine ⟨0, (reset_ok h.m hB t h1 hap hk ht ho).mono fun e w1 hx => ⟨hx.1, ?_, fun D hb _ => ?_⟩⟩
   ·obtain ⟨bs, ms⟩ := hx.2.out
    exact ⟨_, ms.kept, fun j hj => hj⟩
   ·obtain ⟨bs, ms⟩ := hx.2.out
    have hk2 : Kept w D M.own := ms.kept.trans (Kept.ofBelow hb _)
    refine (rreset_ok2 (R_keep h ms.kept hb) (Nat.le_trans hB hk2.size) t (h2 D hk2).1 (h2 D hk2).2 hk ht (by rw [<- h.s.n, <- h.s.self]; exact ho)).mono fun e w2 hy => ⟨hy.1, ?_⟩
    obtain ⟨g, c', rst⟩ := hy.2
    refine ⟨_, _, (DStep.of h ms hb rst ⟨h.s.n, h.s.self, h.s.win, h.s.room, rfl, fun q hq he => ?_, fun q E hq he => ?_⟩ rfl).up (by omega) hT⟩
    ·have he' : (if (q : Int) ∈ xs then some (E0 (bs q)) else none) = none := he
     show (rnp xs q).pe = false
     by_cases c : (q : Int) ∈ xs
     ·rw [if_pos c] at he'; cases he'
     ·exact decide_eq_false c
    ·have he' : (if (q : Int) ∈ xs then some (E0 (bs q)) else none) = some E := he
     show (rnp xs q).pe = true /\ Sm M.win E.pu (rnp xs q)
     by_cases c : (q : Int) ∈ xs
     ·rw [if_pos c] at he'
      cases he'
      exact ⟨decide_eq_true c, ⟨rfl, rfl, fun n => by simp [En.pu, E0, S0, rnp], rfl, fun n => rfl, fun x hx => (by cases hx), fun x hx => (by cases hx), rfl, Nat.le_refl _⟩⟩
     ·rw [if_neg c] at he'; cases he'
end
end Go.Proofs.Ythanifbimndhaaa.Ln
