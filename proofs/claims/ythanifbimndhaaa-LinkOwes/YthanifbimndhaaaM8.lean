import Derived.Test.YthanifbimndhaaaM7
namespace Go.Proofs.Ythanifbimndhaaa.Ln
set_option maxHeartbeats 40000000
open Go.RowKit Mb
set_option linter.unusedVariables false
set_option maxRecDepth 100000
set_option linter.unusedSimpArgs false
section
variable {w w' W : World} {B : Nat}
structure Bn where
 k : Nat
 c : Nat
 bs : List Int
def Bn.v (b : Bn) : Value := .slice (some ⟨b.k, 0, none⟩) b.bs.length b.c
structure Bn.Ok (b : Bn) (w : World) (B : Nat) : Prop where
 blk : ∃ C : Array Value, w.heap[b.k]? = some (.cells C 5 (0, 0)) /\ ∀ i, i < b.bs.length -> C[i]? = some (.int .u8 (b.bs.getD i 0))
 by_ : By b.bs
 cap : b.bs.length ≤ b.c
 lo : B ≤ b.k
 pos : 0 < b.bs.length
 le : b.bs.length ≤ 300
theorem Bn.Ok.keep {b : Bn} {P : Nat -> Prop} (h : b.Ok w B) (k : Kept w w' P) (hp : ¬ P b.k) : b.Ok w' B := by
 obtain ⟨C, h1, h2⟩ := h.blk
 exact ⟨⟨C, k.obj h1 hp, h2⟩, h.by_, h.cap, h.lo, h.pos, h.le⟩
theorem Bn.Ok.still {b : Bn} (h : b.Ok w B) (hb : Below w.heap.size w w') : b.Ok w' B := h.keep (Kept.ofBelow hb (fun _ => False)) id
theorem Bn.Ok.rd {b : Bn} (h : b.Ok w B) : Rd w (some ⟨b.k, 0, none⟩) b.bs.length b.c b.bs := by
 obtain ⟨C, h1, h2⟩ := h.blk
 exact ⟨rfl, h.cap, by simp, .inr ⟨b.k, 0, rfl, fun i hi => by rw [Nat.zero_add, bC h1]; exact h2 i hi⟩, h.by_⟩
theorem Bn.Ok.lt {b : Bn} (h : b.Ok w B) : b.k < w.heap.size := by obtain ⟨C, h1, _⟩ := h.blk; exact lt_heap h1
theorem Body.bn {b : Bd} (h : Body w B b) : (⟨b.k, b.bs.length, b.bs⟩ : Bn).Ok w B :=
 ⟨⟨_, h.bk, fun i hi => by rw [List.getElem?_toArray]; exact byts_at _ i hi⟩, h.by_, Nat.le_refl _, h.lo, h.pos, h.le⟩
theorem step_app_rd {ops : Array Oper} {rest : List Oper} {o : Oper} {a : Act} {Q : Exit -> Act -> World -> Prop} (hgd : o.guard = none) (s x : Operand)
  (ho : o.op = .call { callee := .builtin .append, args := #[s, x], argTypes := #[40, 40] })
  (w0 : World) (v : Value) (hs : a.eval s = v) (hown : w.ownsRow w0.heap.size 5 1 v 0 []) (ao : Option Addr) (n c : Nat) (bs : List Int) (hx : a.eval x = .slice ao n c) (hr : Rd w ao n c bs) (hn : 0 < n) (hn2 : n ≤ 1000000) (hb0 : Below w0.heap.size w0 w)
  (h : ∀ g cap w', w'.ownsRow w0.heap.size 5 1 (.slice (some ⟨g, 0, none⟩) n cap) n (byts bs) -> Below w0.heap.size w0 w' -> wpList Try.prog ops Q rest (a.put o.dst (.slice (some ⟨g, 0, none⟩) n cap)) w') : wpList Try.prog ops Q (o :: rest) a w := by
 obtain ⟨i0, hi, hz0, hz1, hz2⟩ := byte_info
 obtain ⟨ad, had⟩ : ∃ ad, ao = some ad := by
  rcases hr.at_ with h0 | ⟨b, off, h1, _⟩
  ·omega
  ·exact ⟨_, h1⟩
 subst had
 refine wpList_append_lies w hgd s x 40 ho w0.heap.size 5 i0 (.int .u8 0) 1 1 Try.underlying40 hi hz0 hz1 hz2 rfl (by decide) v 0 [] hs hown ad n c (byts bs) hx (by rw [byts_len, hr.len]; omega) (hr.news ad rfl) (byts_one bs) hn (by unfold maxLen; omega) (by omega) hb0.size _ rfl fun g cap w' h2 h3 h4 h5 => ?_
 have e : 0 + n = n := by omega
 rw [e] at h2
 rw [e]
 refine h g cap w' (by simpa using h2) ?_
 exact hb0.grown h3 hb0.size (fun q hq => (World.ownsRow.lt hown q hq).1)
theorem own_empty (w : World) : (w.alloc (.cells #[] 5)).ownsRow w.heap.size 5 1 (.slice (some ⟨w.heap.size, 0, none⟩) 0 0) 0 [] :=
 World.ownsRow_made w #[] 0 (Nat.le_refl _) (Nat.zero_le _) rfl
structure CpO (w w' : World) (bs : List Int) (e : Ending) : Prop where
 bn : ∃ b : Bn, e = .returned b.v /\ b.bs = bs /\ b.Ok w' w.heap.size
 bel : Below w.heap.size w w'
theorem copied_any {ao : Option Addr} {n c : Nat} {bs : List Int} (hr : Rd w ao n c bs) (hn : 0 < n) (hn2 : n ≤ 300) : Calls Try.prog 65 #[.slice ao n c] w fun e w' => CpO w w' bs e := by
 have Hr : Hid (Rd w ao n c bs) := hr
 have hby := hr.by_
 have hln := hr.len
 have HX : Hid (∀ g cap w', w'.ownsRow w.heap.size 5 1 (.slice (some ⟨g, 0, none⟩) n cap) n (byts bs) -> ∃ b : Bn, Ending.returned (Value.slice (some ⟨g, 0, none⟩) n cap) = .returned b.v /\ b.bs = bs /\ b.Ok w' w.heap.size) := fun g cap w' ho => by
  subst hln
  rcases ho.2 with ⟨h3, _⟩ | ⟨g', cap', cur, hv, hg, hh, hr1, hr2, hr3, hr4⟩
  ·cases h3
  ·simp at hv
   obtain ⟨hg', rfl⟩ := hv
   subst hg'
   refine ⟨⟨g, cap, bs⟩, rfl, rfl, ⟨⟨cur, hh, fun i hi => ?_⟩, hby, hr1, hg, by show 0 < bs.length; omega, by show bs.length ≤ 300; omega⟩⟩
   have hi' : i < bs.length := hi
   have e1 : cur[i]? = (cur.toList.take (bs.length * 1))[i]? := by rw [List.getElem?_take]; simp [hi']
   rw [e1, hr4]
   exact byts_at bs i hi'
 clear hr hby hln
 have Hb1 : Hid (Below w.heap.size w (w.alloc (.cells #[] 5))) := (Below.refl _ _).alloc (Nat.le_refl _) _
 go_enter Try.func65, Try.ntmps65
 go_wp2_with (first | (at_builtin; refine step_app_rd rfl _ _ rfl w _ rfl (own_empty w) ao n c bs rfl (Hr.out.still Hb1.out) hn (by omega) Hb1.out ?_) | fail)
 intro g cap w' ho hb
 have HX2 := HX.out g cap w' ho
 have HB : Hid (Below w.heap.size w w') := hb
 have HY : Hid (CpO w w' bs (.returned (.slice (some ⟨g, 0, none⟩) n cap))) := ⟨HX2, hb⟩
 clear HX2 ho hb HX
 go_wp2
 go_ret
 exact HY.out
theorem same_eq {a1 a2 : Option Addr} {n c1 c2 : Nat} {bs : List Int} (h1 : Rd w a1 n c1 bs) (h2 : Rd w a2 n c2 bs) (hn : n ≤ 1000000) : Calls Try.prog 27 #[.slice a1 n c1, .slice a2 n c2] w fun e w' => e = .returned (.bool true) /\ Below w.heap.size w w' := by
 have H1 : Hid (Rd w a1 n c1 bs) := h1
 have H2 : Hid (Rd w a2 n c2 bs) := h2
 clear h1 h2
 have hne : ((n : Int) != (n : Int)) = false := by simp
 go_enter Try.func27, Try.ntmps27
 go_wp2
 go_loopw [5] (fun v5 wr => ∃ i : Nat, i ≤ n /\ v5 = .int .i64 (i : Int) /\ Hid (Below w.heap.size w wr)) (fun v5 _ => n - (intOf v5).toNat)
 case atStart => exact ⟨0, Nat.zero_le _, rfl, Below.refl _ _⟩
 case round =>
  obtain ⟨i, hi, rfl, hb⟩ := hrel
  by_cases hlt : i < n
  ·rcases (H1.out.still hb.out).at_ with h0 | ⟨b1, o1, rfl, hc1⟩
   ·omega
   ·rcases (H2.out.still hb.out).at_ with h0 | ⟨b2, o2, rfl, hc2⟩
    ·omega
    ·have x1 := hc1 i hlt
     have x2 := hc2 i hlt
     have i1 : (0 : Int) ≤ (i : Int) := Int.natCast_nonneg _
     have i2 : (i : Int) < (n : Int) := by omega
     generalize bs.getD i 0 = x at *
     clear hc1 hc2
     go_wp2
     go_quiet (fail)
     all_goals (go_wp2; exact ⟨⟨i + 1, by omega, by go_num, (show Below _ _ _ from by repeat (first | exact hb.out | apply below_drewN | apply Below.drew))⟩, by simp [intOf]; omega⟩)
  ·obtain rfl : i = n := by omega
   go_wp2
   go_ret
   exact ⟨rfl, hb.out⟩
end
def Rk (w : World) (g t m : Nat) (f : Nat -> Value) : Prop := ∃ C : Array Value, w.heap[g]? = some (.cells C t (0, 0)) /\ ∀ j, j < m -> C[j]? = some (f j)
structure Rn where
 pe : Bool
 pv : Value
 ps : List Bn
 an : Nat
 gt : Nat
 ev : Value
 ea : List (Nat × Bn)
 ow : Bool
def Rn.cs (r : Rn) : List Value := [.bool r.pe, r.pv, .int .i64 (r.an : Int), .int .i64 (r.gt : Int), r.ev, .bool r.ow]
structure Rx where
 b : Nat
 g : Nat
 c : Nat
 n : Nat
 self : Nat
 win : Nat
 space : Nat
 tag : Tg
 es : Nat -> Rn
def Rx.cs (R : Rx) : Array Value := #[.int .i64 (R.n : Int), .int .i64 (R.self : Int), .int .i64 (R.win : Int), .int .i64 (R.space : Int), .int .i64 R.tag.e, .int .i64 R.tag.l, .int .i64 R.tag.i, .int .i64 R.tag.c, .slice (some ⟨R.g, 0, none⟩) R.n R.c]
def rrf (es : Nat -> Rn) (j : Nat) : Value := ((es (j / 6)).cs).getD (j % 6) undef
def eac (x : Nat × Bn) : List Value := [.int .i64 (x.1 : Int), x.2.v]
def Rn.own (r : Rn) (j : Nat) : Prop := r.pv.ownBlock = some j ∨ r.ev.ownBlock = some j ∨ (∃ y ∈ r.ps, j = y.k) ∨ ∃ x ∈ r.ea, j = x.2.k
def Rx.own (R : Rx) (j : Nat) : Prop := j = R.b ∨ j = R.g ∨ ∃ q, q < R.n /\ (R.es q).own j
def Rx.put (R : Rx) (q : Nat) (r : Rn) : Rx := { R with es := upd R.es q r }
section
variable {w w' W : World} {B T : Nat} {R R' : Rx} {r r' : Rn}
theorem Rk.lt {g t m : Nat} {f : Nat -> Value} (h : Rk w g t m f) : g < w.heap.size := by obtain ⟨C, h1, _⟩ := h; exact lt_heap h1
theorem Rk.cell {g t m : Nat} {f : Nat -> Value} (h : Rk w g t m f) (j : Nat) (hj : j < m) : w.cell? ⟨g, j, none⟩ = some (f j) := by
 obtain ⟨C, h1, h2⟩ := h
 rw [bC h1]; exact h2 j hj
theorem Rk.fz {g t m : Nat} {f : Nat -> Value} (h : Rk w g t m f) (j : Nat) : w.frozen? ⟨g, j, none⟩ = false := by
 obtain ⟨C, h1, _⟩ := h
 exact frozen_of_row w _ j _ _ h1
theorem Rk.keep {g t m : Nat} {f : Nat -> Value} {P : Nat -> Prop} (h : Rk w g t m f) (k : Kept w w' P) (hp : ¬ P g) : Rk w' g t m f := by
 obtain ⟨C, h1, h2⟩ := h
 exact ⟨C, k.obj h1 hp, h2⟩
theorem Rk.congr {g t m : Nat} {f f' : Nat -> Value} (h : Rk w g t m f) (e : ∀ j, j < m -> f j = f' j) : Rk w g t m f' := by
 obtain ⟨C, h1, h2⟩ := h
 exact ⟨C, h1, fun j hj => by rw [h2 j hj, e j hj]⟩
theorem Rk.set {g t m : Nat} {f : Nat -> Value} (h : Rk w g t m f) (i : Nat) (v : Value) : Rk (w.setCell ⟨g, i, none⟩ v) g t m (upd f i v) := by
 obtain ⟨C, h1, h2⟩ := h
 refine ⟨C.setIfInBounds i v, blk_set h1 rfl, fun j hj => ?_⟩
 have h3 := h2 j hj
 by_cases e : j = i
 ·subst e
  have hl : j < C.size := by
   rcases Nat.lt_or_ge j C.size with h | h
   ·exact h
   ·rw [Array.getElem?_eq_none h] at h3; cases h3
  rw [upd_same, Array.getElem?_setIfInBounds_self_of_lt hl]
 ·rw [upd_ne _ _ e, Array.getElem?_setIfInBounds_ne (fun h => e h.symm)]; exact h3
theorem Rk.ne {g t m k t' : Nat} {f : Nat -> Value} {C : Array Value} (h : Rk w g t m f) (h' : w.heap[k]? = some (.cells C t' (0, 0))) (ht : t ≠ t') : g ≠ k := by
 obtain ⟨D, h1, _⟩ := h
 exact blk_ne h1 h' ht
theorem rrf_at (es : Nat -> Rn) (q i : Nat) (hi : i < 6) : rrf es (q * 6 + i) = ((es q).cs).getD i undef := by
 unfold rrf
 rw [show (q * 6 + i) / 6 = q by omega, show (q * 6 + i) % 6 = i by omega]
theorem rrf_upd (es : Nat -> Rn) (q i : Nat) (v : Value) (hi : i < 6) (he : r'.cs = ((es q).cs).set i v) (j : Nat) : upd (rrf es) (q * 6 + i) v j = rrf (upd es q r') j := by
 by_cases e : j / 6 = q
 ·subst e
  unfold rrf
  rw [upd_same, he]
  by_cases e2 : j = j / 6 * 6 + i
  ·rw [<- e2, upd_same, show j % 6 = i by omega]
   have : i < ((es (j / 6)).cs).length := by simpa [Rn.cs] using hi
   simp [List.getD, this]
  ·rw [upd_ne _ _ e2]
   have : ¬ i = j % 6 := by omega
   simp [List.getD, List.getElem?_set, this]
 ·have e2 : j ≠ q * 6 + i := by omega
  rw [upd_ne _ _ e2]
  unfold rrf
  rw [upd_ne _ _ e]
structure Rn.Ok (r : Rn) (w : World) (B T : Nat) : Prop where
 rp : w.ownsRow B 40 1 r.pv r.ps.length (r.ps.map Bn.v)
 re : w.ownsRow B 122 2 r.ev r.ea.length (r.ea.flatMap eac)
 bp : ∀ y ∈ r.ps, y.Ok w B
 be : ∀ x ∈ r.ea, x.2.Ok w B
 s1 : r.an ≤ r.ps.length
 s2 : r.ps.length ≤ T
 s3 : r.gt + r.ea.length ≤ T
 s4 : ∀ x ∈ r.ea, x.1 ≤ 4611686018427387904
structure Rx.Ok (R : Rx) (w : World) (B T : Nat) : Prop where
 blk : w.heap[R.b]? = some (.cells R.cs 110 (0, 0))
 row : Rk w R.g 107 (R.n * 6) (rrf R.es)
 el : ∀ q, q < R.n -> (R.es q).Ok w B T
 ap : ∀ p q k, p ≠ q -> p < R.n -> q < R.n -> (R.es p).pv.ownBlock = some k -> (R.es q).pv.ownBlock = some k -> False
 ae : ∀ p q k, p ≠ q -> p < R.n -> q < R.n -> (R.es p).ev.ownBlock = some k -> (R.es q).ev.ownBlock = some k -> False
 n1 : 1 ≤ R.n /\ R.n ≤ 16 /\ R.self < R.n /\ R.n ≤ R.c
 w1 : 1 ≤ R.win /\ R.win ≤ R.space /\ R.space ≤ 20000
 lo : B ≤ R.b /\ B ≤ R.g
 t1 : T ≤ 1000
theorem Rn.Ok.lt (h : r.Ok w B T) {j : Nat} (hj : r.own j) : j < w.heap.size := by
 rcases hj with hj | hj | ⟨y, hy, rfl⟩ | ⟨x, hx, rfl⟩
 ·exact (World.ownsRow.lt h.rp j hj).2
 ·exact (World.ownsRow.lt h.re j hj).2
 ·exact (h.bp y hy).lt
 ·exact (h.be x hx).lt
theorem Rn.Ok.loj (h : r.Ok w B T) {j : Nat} (hj : r.own j) : B ≤ j := by
 rcases hj with hj | hj | ⟨y, hy, rfl⟩ | ⟨x, hx, rfl⟩
 ·exact (World.ownsRow.lt h.rp j hj).1
 ·exact (World.ownsRow.lt h.re j hj).1
 ·exact (h.bp y hy).lo
 ·exact (h.be x hx).lo
theorem Rx.Ok.lt (h : R.Ok w B T) {j : Nat} (hj : R.own j) : j < w.heap.size := by
 rcases hj with rfl | rfl | ⟨q, hq, hj⟩
 ·exact lt_heap h.blk
 ·exact h.row.lt
 ·exact (h.el q hq).lt hj
theorem Rx.Ok.loj (h : R.Ok w B T) {j : Nat} (hj : R.own j) : B ≤ j := by
 rcases hj with rfl | rfl | ⟨q, hq, hj⟩
 ·exact h.lo.1
 ·exact h.lo.2
 ·exact (h.el q hq).loj hj
theorem Rn.Ok.keep {P : Nat -> Prop} (h : r.Ok w B T) (k : Kept w w' P) (hp : ∀ j, r.own j -> ¬ P j) : r.Ok w' B T :=
 ⟨k.owns h.rp fun g hg => hp g (.inl hg), k.owns h.re fun g hg => hp g (.inr (.inl hg)), fun y hy => (h.bp y hy).keep k (hp _ (.inr (.inr (.inl ⟨y, hy, rfl⟩)))), fun x hx => (h.be x hx).keep k (hp _ (.inr (.inr (.inr ⟨x, hx, rfl⟩)))), h.s1, h.s2, h.s3, h.s4⟩
theorem Rx.Ok.keep {P : Nat -> Prop} (h : R.Ok w B T) (k : Kept w w' P) (hp : ∀ j, R.own j -> ¬ P j) : R.Ok w' B T :=
 { h with blk := k.obj h.blk (hp _ (.inl rfl)), row := h.row.keep k (hp _ (.inr (.inl rfl))), el := fun q hq => (h.el q hq).keep k fun j hj => hp j (.inr (.inr ⟨q, hq, hj⟩)) }
theorem Rx.Ok.still (h : R.Ok w B T) (hb : Below w.heap.size w w') : R.Ok w' B T := h.keep (Kept.ofBelow hb (fun _ => False)) fun _ _ => id
theorem Rn.Ok.mono {T' : Nat} (h : r.Ok w B T) (hT : T ≤ T') : r.Ok w B T' := { h with s2 := Nat.le_trans h.s2 hT, s3 := Nat.le_trans h.s3 hT }
theorem Rx.Ok.mono {T' : Nat} (h : R.Ok w B T) (hT : T ≤ T') (h1 : T' ≤ 1000) : R.Ok w B T' := { h with el := fun q hq => (h.el q hq).mono hT, t1 := h1 }
structure Rstep (w w' : World) (R R' : Rx) (B T : Nat) : Prop where
 ok : R'.Ok w' B T
 kept : Kept w w' R.own
 own : ∀ j, R'.own j -> R.own j ∨ w.heap.size ≤ j
 b : R'.b = R.b
theorem Rstep.below (h : R.Ok w B T) (hb : Below w.heap.size w w') : Rstep w w' R R B T := ⟨h.still hb, Kept.ofBelow hb _, fun _ h => .inl h, rfl⟩
theorem Rstep.trans {w2 : World} {R2 : Rx} (s : Rstep w w' R R' B T) (t : Rstep w' w2 R' R2 B T) : Rstep w w2 R R2 B T :=
 ⟨t.ok, s.kept.step t.kept s.own, fun j hj => (t.own j hj).elim (s.own j) (fun hh => .inr (Nat.le_trans s.kept.size hh)), t.b.trans s.b⟩
theorem Rx.Ok.b_g (h : R.Ok w B T) : R.b ≠ R.g := fun e => h.row.ne h.blk (by decide) e.symm
theorem Rx.Ok.ty_p (h : R.Ok w B T) {q k : Nat} (hq : q < R.n) (hk : (R.es q).pv.ownBlock = some k) : ∃ C, w.heap[k]? = some (.cells C 40 (0, 0)) := own_ty (h.el q hq).rp hk
theorem Rx.Ok.ty_e (h : R.Ok w B T) {q k : Nat} (hq : q < R.n) (hk : (R.es q).ev.ownBlock = some k) : ∃ C, w.heap[k]? = some (.cells C 122 (0, 0)) := own_ty (h.el q hq).re hk
theorem Bn.Ok.ne {y : Bn} (h : y.Ok w B) {k t : Nat} {C : Array Value} (h' : w.heap[k]? = some (.cells C t (0, 0))) (ht : t ≠ 5) : y.k ≠ k := by
 obtain ⟨D, h1, _⟩ := h.blk
 exact blk_ne h1 h' (fun e => ht e.symm)
theorem Rx.Ok.cell (h : R.Ok w B T) {q i : Nat} (hq : q < R.n) (hi : i < 6) : w.cell? ⟨R.g, q * 6 + i, none⟩ = some (((R.es q).cs).getD i undef) := by
 rw [h.row.cell _ (by omega), rrf_at _ _ _ hi]
theorem Rx.Ok.cc (h : R.Ok w B T) (i : Nat) {v : Value} (e : R.cs[i]? = some v) : w.cell? ⟨R.b, i, none⟩ = some v := (bC h.blk i).trans e
theorem Rx.Ok.change {q : Nat} (h : R.Ok w B T) (hq : q < R.n) (k : Kept w w' (fun j => j = R.g ∨ (R.es q).pv.ownBlock = some j ∨ (R.es q).ev.ownBlock = some j)) (hrow : Rk w' R.g 107 (R.n * 6) (rrf (upd R.es q r')))
  (hp : w'.ownsRow B 40 1 r'.pv r'.ps.length (r'.ps.map Bn.v)) (he : w'.ownsRow B 122 2 r'.ev r'.ea.length (r'.ea.flatMap eac)) (hnp : ∀ j, r'.pv.ownBlock = some j -> (R.es q).pv.ownBlock = some j ∨ w.heap.size ≤ j) (hne : ∀ j, r'.ev.ownBlock = some j -> (R.es q).ev.ownBlock = some j ∨ w.heap.size ≤ j)
  (hbp : ∀ y ∈ r'.ps, y ∈ (R.es q).ps ∨ (y.Ok w' B /\ w.heap.size ≤ y.k)) (hbe : ∀ x ∈ r'.ea, (∃ x' ∈ (R.es q).ea, x'.2 = x.2) ∨ (x.2.Ok w' B /\ w.heap.size ≤ x.2.k)) (s1 : r'.an ≤ r'.ps.length) {T' : Nat} (hT : T ≤ T') (hT1 : T' ≤ 1000) (s2 : r'.ps.length ≤ T') (s3 : r'.gt + r'.ea.length ≤ T') (s4 : ∀ x ∈ r'.ea, x.1 ≤ 4611686018427387904) : Rstep w w' R (R.put q r') B T' := by
 have hnb : ∀ j, (j = R.g ∨ (R.es q).pv.ownBlock = some j ∨ (R.es q).ev.ownBlock = some j) -> j ≠ R.b := fun j hj e => by
  rcases hj with rfl | hj | hj
  ·exact h.b_g e.symm
  ·obtain ⟨C, hC⟩ := h.ty_p hq hj; exact blk_ne hC h.blk (by decide) e
  ·obtain ⟨C, hC⟩ := h.ty_e hq hj; exact blk_ne hC h.blk (by decide) e
 have hyn : ∀ y : Bn, y.Ok w B -> ¬ (y.k = R.g ∨ (R.es q).pv.ownBlock = some y.k ∨ (R.es q).ev.ownBlock = some y.k) := fun y hy hj => by
  rcases hj with hj | hj | hj
  ·obtain ⟨C, hC, _⟩ := h.row; exact hy.ne hC (by decide) hj
  ·obtain ⟨C, hC⟩ := h.ty_p hq hj; exact hy.ne hC (by decide) rfl
  ·obtain ⟨C, hC⟩ := h.ty_e hq hj; exact hy.ne hC (by decide) rfl
 have hel : ∀ p, p < R.n -> p ≠ q -> ∀ j, (R.es p).own j -> ¬ (j = R.g ∨ (R.es q).pv.ownBlock = some j ∨ (R.es q).ev.ownBlock = some j) := fun p hp' hpq j hj hk => by
  rcases hj with hj | hj | ⟨y, hy, rfl⟩ | ⟨x, hx, rfl⟩
  ·obtain ⟨C, hC⟩ := h.ty_p hp' hj
   rcases hk with rfl | hk | hk
   ·exact h.row.ne hC (by decide) rfl
   ·exact h.ap p q j hpq hp' hq hj hk
   ·obtain ⟨C', hC'⟩ := h.ty_e hq hk; exact blk_ne hC hC' (by decide) rfl
  ·obtain ⟨C, hC⟩ := h.ty_e hp' hj
   rcases hk with rfl | hk | hk
   ·exact h.row.ne hC (by decide) rfl
   ·obtain ⟨C', hC'⟩ := h.ty_p hq hk; exact blk_ne hC hC' (by decide) rfl
   ·exact h.ae p q j hpq hp' hq hj hk
  ·exact hyn y ((h.el p hp').bp y hy) hk
  ·exact hyn x.2 ((h.el p hp').be x hx) hk
 refine ⟨⟨k.obj h.blk (fun e => hnb _ e rfl), hrow, fun p hp' => ?_, fun p p' j hpp hp1 hp2 h1 h2 => ?_, fun p p' j hpp hp1 hp2 h1 h2 => ?_, h.n1, h.w1, h.lo, hT1⟩, ?_, ?_, rfl⟩
 ·have hp2 : p < R.n := hp'
  show (upd R.es q r' p).Ok w' B T'
  by_cases e : p = q
  ·subst e
   rw [upd_same]
   exact ⟨hp, he, fun y hy => (hbp y hy).elim (fun h1 => ((h.el p hp2).bp y h1).keep k (hyn y ((h.el p hp2).bp y h1))) And.left, fun x hx => (hbe x hx).elim (fun ⟨x', h1, h2⟩ => by rw [<- h2]; exact ((h.el p hp2).be x' h1).keep k (hyn x'.2 ((h.el p hp2).be x' h1))) And.left, s1, s2, s3, s4⟩
  ·rw [upd_ne _ _ e]
   exact ((h.el p hp2).keep k (hel p hp2 e)).mono hT
 ·have hp1' : p < R.n := hp1
  have hp2' : p' < R.n := hp2
  have h1' : (upd R.es q r' p).pv.ownBlock = some j := h1
  have h2' : (upd R.es q r' p').pv.ownBlock = some j := h2
  by_cases e : p = q
  ·have e2 : p' ≠ q := fun e2 => hpp (e.trans e2.symm)
   rw [e, upd_same] at h1'
   rw [upd_ne _ _ e2] at h2'
   rcases hnp j h1' with h3 | h3
   ·exact h.ap q p' j (fun e3 => e2 e3.symm) hq hp2' h3 h2'
   ·have := (h.el p' hp2').lt (.inl h2'); omega
  ·rw [upd_ne _ _ e] at h1'
   by_cases e2 : p' = q
   ·rw [e2, upd_same] at h2'
    rcases hnp j h2' with h3 | h3
    ·exact h.ap p q j e hp1' hq h1' h3
    ·have := (h.el p hp1').lt (.inl h1'); omega
   ·rw [upd_ne _ _ e2] at h2'
    exact h.ap p p' j hpp hp1' hp2' h1' h2'
 ·have hp1' : p < R.n := hp1
  have hp2' : p' < R.n := hp2
  have h1' : (upd R.es q r' p).ev.ownBlock = some j := h1
  have h2' : (upd R.es q r' p').ev.ownBlock = some j := h2
  by_cases e : p = q
  ·have e2 : p' ≠ q := fun e2 => hpp (e.trans e2.symm)
   rw [e, upd_same] at h1'
   rw [upd_ne _ _ e2] at h2'
   rcases hne j h1' with h3 | h3
   ·exact h.ae q p' j (fun e3 => e2 e3.symm) hq hp2' h3 h2'
   ·have := (h.el p' hp2').lt (.inr (.inl h2')); omega
  ·rw [upd_ne _ _ e] at h1'
   by_cases e2 : p' = q
   ·rw [e2, upd_same] at h2'
    rcases hne j h2' with h3 | h3
    ·exact h.ae p q j e hp1' hq h1' h3
    ·have := (h.el p hp1').lt (.inr (.inl h1')); omega
   ·rw [upd_ne _ _ e2] at h2'
    exact h.ae p p' j hpp hp1' hp2' h1' h2'
 ·refine k.mono fun j _ hj => ?_
  rcases hj with rfl | hj | hj
  ·exact .inr (.inl rfl)
  ·exact .inr (.inr ⟨q, hq, .inl hj⟩)
  ·exact .inr (.inr ⟨q, hq, .inr (.inl hj)⟩)
 ·rintro j (rfl | rfl | ⟨p, hp', hj⟩)
  ·exact .inl (.inl rfl)
  ·exact .inl (.inr (.inl rfl))
  ·have hp2 : p < R.n := hp'
   have hj' : (upd R.es q r' p).own j := hj
   by_cases e : p = q
   ·subst e
    rw [upd_same] at hj'
    rcases hj' with hj | hj | ⟨y, hy, rfl⟩ | ⟨x, hx, rfl⟩
    ·exact (hnp j hj).imp (fun h1 => .inr (.inr ⟨p, hp2, .inl h1⟩)) id
    ·exact (hne j hj).imp (fun h1 => .inr (.inr ⟨p, hp2, .inr (.inl h1)⟩)) id
    ·exact (hbp y hy).imp (fun h1 => .inr (.inr ⟨p, hp2, .inr (.inr (.inl ⟨y, h1, rfl⟩))⟩)) And.right
    ·exact (hbe x hx).imp (fun ⟨x', h1, h2⟩ => .inr (.inr ⟨p, hp2, .inr (.inr (.inr ⟨x', h1, by rw [h2]⟩))⟩)) And.right
   ·rw [upd_ne _ _ e] at hj'
    exact .inl (.inr (.inr ⟨p, hp2, hj'⟩))
end
def Rx.at (R : Rx) (q : Int) : Option Rn := if 0 ≤ q /\ q < (R.n : Int) then (if (R.es q.toNat).pe then some (R.es q.toNat) else none) else none
section
variable {w w' W : World} {B T : Nat} {R R' : Rx} {r r' : Rn}
theorem rat_es {q : Int} (hq : R.at q = some r) : ∃ k : Nat, q = (k : Int) /\ k < R.n /\ R.es k = r /\ r.pe = true := by
 unfold Rx.at at hq
 by_cases h1 : 0 ≤ q /\ q < (R.n : Int)
 ·rw [if_pos h1] at hq
  by_cases h2 : (R.es q.toNat).pe = true
  ·rw [if_pos h2] at hq
   cases hq
   exact ⟨q.toNat, by omega, by omega, rfl, h2⟩
  ·rw [if_neg h2] at hq; cases hq
 ·rw [if_neg h1] at hq; cases hq
theorem is_any (h : R.Ok w B T) (q : Int) : Calls Try.prog 63 #[.pointer (some ⟨R.b, 0, none⟩), .int .i64 q] w fun e w' => e = .returned (.bool (R.at q).isSome) /\ w = w' := by
 have c0 : w.cell? ⟨R.b, 0, none⟩ = some (.int .i64 (R.n : Int)) := h.cc 0 rfl
 have c8 : w.cell? ⟨R.b, 8, none⟩ = some (.slice (some ⟨R.g, 0, none⟩) R.n R.c) := h.cc 8 rfl
 by_cases h1 : 0 ≤ q
 ·by_cases h2 : q < (R.n : Int)
  ·obtain ⟨k, rfl⟩ : ∃ k : Nat, q = k := ⟨q.toNat, by omega⟩
   have e1 : w.cell? ⟨R.g, k * 6, none⟩ = some (.bool (R.es k).pe) := h.cell (q := k) (i := 0) (by omega) (by omega)
   have e2 : (R.at (k : Int)).isSome = (R.es k).pe := by
    unfold Rx.at
    rw [if_pos ⟨h1, h2⟩, Int.toNat_natCast]
    cases (R.es k).pe <;> rfl
   rw [e2]
   clear h e2
   generalize (R.es k).pe = pe at *
   have hg1 : (k : Int) ≥ 0 := h1
   go_enter Try.func63, Try.ntmps63
   go_wp2
   go_ret
   exact ⟨rfl, rfl⟩
  ·have e2 : (R.at q).isSome = false := by unfold Rx.at; rw [if_neg (by omega)]; rfl
   rw [e2]
   have hg1 : q ≥ 0 := h1
   clear h e2
   go_enter Try.func63, Try.ntmps63
   go_wp2
   go_ret
   exact ⟨rfl, rfl⟩
 ·have e2 : (R.at q).isSome = false := by unfold Rx.at; rw [if_neg (by omega)]; rfl
  rw [e2]
  have hg1 : ¬ q ≥ 0 := h1
  clear h e2
  go_enter Try.func63, Try.ntmps63
  go_wp2
  go_ret
  exact ⟨rfl, rfl⟩
theorem is_yes (h : R.Ok w B T) {q : Int} (hq : R.at q = some r) : Calls Try.prog 63 #[.pointer (some ⟨R.b, 0, none⟩), .int .i64 q] w fun e w' => e = .returned (.bool true) /\ w = w' := by
 have := is_any h q
 rw [hq] at this
 exact this
theorem is_no (h : R.Ok w B T) {q : Int} (hq : R.at q = none) : Calls Try.prog 63 #[.pointer (some ⟨R.b, 0, none⟩), .int .i64 q] w fun e w' => e = .returned (.bool false) /\ w = w' := by
 have := is_any h q
 rw [hq] at this
 exact this
structure Ce (w : World) (R : Rx) (k : Nat) (r : Rn) : Prop where
 c0 : w.cell? ⟨R.b, 0, none⟩ = some (.int .i64 (R.n : Int))
 c1 : w.cell? ⟨R.b, 1, none⟩ = some (.int .i64 (R.self : Int))
 c2 : w.cell? ⟨R.b, 2, none⟩ = some (.int .i64 (R.win : Int))
 c3 : w.cell? ⟨R.b, 3, none⟩ = some (.int .i64 (R.space : Int))
 c4 : w.cell? ⟨R.b, 4, none⟩ = some (.int .i64 R.tag.e)
 c5 : w.cell? ⟨R.b, 5, none⟩ = some (.int .i64 R.tag.l)
 c6 : w.cell? ⟨R.b, 6, none⟩ = some (.int .i64 R.tag.i)
 c7 : w.cell? ⟨R.b, 7, none⟩ = some (.int .i64 R.tag.c)
 c8 : w.cell? ⟨R.b, 8, none⟩ = some (.slice (some ⟨R.g, 0, none⟩) R.n R.c)
 e0 : w.cell? ⟨R.g, k * 6, none⟩ = some (.bool r.pe)
 e1 : w.cell? ⟨R.g, k * 6 + 1, none⟩ = some r.pv
 e2 : w.cell? ⟨R.g, k * 6 + 2, none⟩ = some (.int .i64 (r.an : Int))
 e3 : w.cell? ⟨R.g, k * 6 + 3, none⟩ = some (.int .i64 (r.gt : Int))
 e4 : w.cell? ⟨R.g, k * 6 + 4, none⟩ = some r.ev
 e5 : w.cell? ⟨R.g, k * 6 + 5, none⟩ = some (.bool r.ow)
theorem Rx.Ok.ce (h : R.Ok w B T) {k : Nat} (hk : k < R.n) (he : R.es k = r) : Ce w R k r := by
 subst he
 exact ⟨h.cc 0 rfl, h.cc 1 rfl, h.cc 2 rfl, h.cc 3 rfl, h.cc 4 rfl, h.cc 5 rfl, h.cc 6 rfl, h.cc 7 rfl, h.cc 8 rfl, h.cell (i := 0) hk (by omega), h.cell (i := 1) hk (by omega), h.cell (i := 2) hk (by omega), h.cell (i := 3) hk (by omega), h.cell (i := 4) hk (by omega), h.cell (i := 5) hk (by omega)⟩
theorem Rn.Ok.pvs (h : r.Ok w B T) : ∃ a c, r.pv = .slice a r.ps.length c := by
 rcases h.rp.2 with ⟨h1, h2⟩ | ⟨g, cap, cur, hv, _⟩
 ·exact ⟨none, 0, by rw [h1, h2]⟩
 ·exact ⟨_, _, hv⟩
theorem Rn.Ok.evs (h : r.Ok w B T) : ∃ a c, r.ev = .slice a r.ea.length c := by
 rcases h.re.2 with ⟨h1, h2⟩ | ⟨g, cap, cur, hv, _⟩
 ·exact ⟨none, 0, by rw [h1, h2]⟩
 ·exact ⟨_, _, hv⟩
theorem rsent_no (h : R.Ok w B T) {q : Int} (hq : R.at q = none) : Calls Try.prog 46 #[.pointer (some ⟨R.b, 0, none⟩), .int .i64 q] w fun e w' => e = .returned (.int .i64 0) /\ w = w' := by
 have HI : Hid (Calls Try.prog 63 #[.pointer (some ⟨R.b, 0, none⟩), .int .i64 q] w fun e w' => e = .returned (.bool false) /\ w = w') := is_no h hq
 clear h hq
 go_enter Try.func46, Try.ntmps46
 go_wp2_with (first | (go_at_call 63; refine HI.out.mono ?_; rintro e w' ⟨rfl, rfl⟩) | fail)
 go_ret
 exact ⟨rfl, rfl⟩
theorem rsent_yes (h : R.Ok w B T) {q : Int} (hq : R.at q = some r) : Calls Try.prog 46 #[.pointer (some ⟨R.b, 0, none⟩), .int .i64 q] w fun e w' => e = .returned (.int .i64 (r.ps.length : Int)) /\ w = w' := by
 have HI : Hid (Calls Try.prog 63 #[.pointer (some ⟨R.b, 0, none⟩), .int .i64 q] w fun e w' => e = .returned (.bool true) /\ w = w') := is_yes h hq
 obtain ⟨k, rfl, hk, he, hpe⟩ := rat_es hq
 have hc := h.ce hk he
 have hr := h.el k hk
 rw [he] at hr
 have c8 := hc.c8
 have e1 := hc.e1
 obtain ⟨pa, pc, hpv⟩ := hr.pvs
 rw [hpv] at e1
 clear hpe he
 generalize r.ps.length = pl at *
 have i1 : (0 : Int) ≤ (k : Int) := Int.natCast_nonneg _
 have i2 : (k : Int) < (R.n : Int) := by omega
 clear h hq hc hr
 go_enter Try.func46, Try.ntmps46
 go_wp2_with (first | (go_at_call 63; refine HI.out.mono ?_; rintro e w' ⟨rfl, rfl⟩) | fail)
 go_ret
 exact ⟨rfl, rfl⟩
theorem rgot_no (h : R.Ok w B T) {q : Int} (hq : R.at q = none) : Calls Try.prog 51 #[.pointer (some ⟨R.b, 0, none⟩), .int .i64 q] w fun e w' => e = .returned (.int .i64 0) /\ w = w' := by
 have HI : Hid (Calls Try.prog 63 #[.pointer (some ⟨R.b, 0, none⟩), .int .i64 q] w fun e w' => e = .returned (.bool false) /\ w = w') := is_no h hq
 clear h hq
 go_enter Try.func51, Try.ntmps51
 go_wp2_with (first | (go_at_call 63; refine HI.out.mono ?_; rintro e w' ⟨rfl, rfl⟩) | fail)
 go_ret
 exact ⟨rfl, rfl⟩
theorem rgot_yes (h : R.Ok w B T) {q : Int} (hq : R.at q = some r) : Calls Try.prog 51 #[.pointer (some ⟨R.b, 0, none⟩), .int .i64 q] w fun e w' => e = .returned (.int .i64 (r.gt : Int)) /\ w = w' := by
 have HI : Hid (Calls Try.prog 63 #[.pointer (some ⟨R.b, 0, none⟩), .int .i64 q] w fun e w' => e = .returned (.bool true) /\ w = w') := is_yes h hq
 obtain ⟨k, rfl, hk, he, hpe⟩ := rat_es hq
 have hc := h.ce hk he
 have hr := h.el k hk
 rw [he] at hr
 have c8 := hc.c8
 have e3 := hc.e3
 clear hpe he
 generalize r.gt = gt at *
 have i1 : (0 : Int) ≤ (k : Int) := Int.natCast_nonneg _
 have i2 : (k : Int) < (R.n : Int) := by omega
 clear h hq hc hr
 go_enter Try.func51, Try.ntmps51
 go_wp2_with (first | (go_at_call 63; refine HI.out.mono ?_; rintro e w' ⟨rfl, rfl⟩) | fail)
 go_ret
 exact ⟨rfl, rfl⟩
theorem rwait_no (h : R.Ok w B T) {q : Int} (hq : R.at q = none) : Calls Try.prog 48 #[.pointer (some ⟨R.b, 0, none⟩), .int .i64 q] w fun e w' => e = .returned (.int .i64 0) /\ Below w.heap.size w w' := by
 have HI : Hid (Calls Try.prog 63 #[.pointer (some ⟨R.b, 0, none⟩), .int .i64 q] w fun e w' => e = .returned (.bool false) /\ w = w') := is_no h hq
 clear h hq
 go_enter Try.func48, Try.ntmps48
 go_wp2_with (first | (go_at_call 63; refine HI.out.mono ?_; rintro e w' ⟨rfl, rfl⟩) | fail)
 go_ret
 exact ⟨rfl, Below.refl _ _⟩
theorem rwait_yes (h : R.Ok w B T) {q : Int} (hq : R.at q = some r) : Calls Try.prog 48 #[.pointer (some ⟨R.b, 0, none⟩), .int .i64 q] w fun e w' => e = .returned (.int .i64 ((r.ps.length : Int) - (r.an : Int))) /\ Below w.heap.size w w' := by
 have HI : Hid (Calls Try.prog 63 #[.pointer (some ⟨R.b, 0, none⟩), .int .i64 q] w fun e w' => e = .returned (.bool true) /\ w = w') := is_yes h hq
 obtain ⟨k, rfl, hk, he, hpe⟩ := rat_es hq
 have hc := h.ce hk he
 have hr := h.el k hk
 rw [he] at hr
 obtain ⟨pa, pc, hpv⟩ := hr.pvs
 have c8 := hc.c8
 have e1 := hc.e1
 rw [hpv] at e1
 have e2 := hc.e2
 have s1 := hr.s1
 have s2 := hr.s2
 have s3 := h.t1
 generalize r.ps.length = pl at *
 generalize r.an = an at *
 clear h hq hc hr hpv hpe he
 have i1 : (0 : Int) ≤ (k : Int) := Int.natCast_nonneg _
 have i2 : (k : Int) < (R.n : Int) := by omega
 go_enter Try.func48, Try.ntmps48
 go_wp2_with (first | (go_at_call 63; refine HI.out.mono ?_; rintro e w' ⟨rfl, rfl⟩) | fail)
 go_quiet (fail)
 all_goals (go_wp2; go_ret; exact ⟨rfl, by repeat (first | exact Below.refl _ _ | apply below_drewN | apply Below.drew)⟩)
def Rx.last (R : Rx) (r : Rn) : Nat := min (r.an + R.win) r.ps.length
theorem rlast_any (h : R.Ok w B T) {k : Nat} (hk : k < R.n) (he : R.es k = r) : Calls Try.prog 64 #[.pointer (some ⟨R.b, 0, none⟩), .int .i64 (k : Int)] w fun e w' => e = .returned (.int .i64 (R.last r : Int)) /\ Below w.heap.size w w' := by
 have hc := h.ce hk he
 have hr := h.el k hk
 rw [he] at hr
 obtain ⟨pa, pc, hpv⟩ := hr.pvs
 have c8 := hc.c8
 have c2 := hc.c2
 have e1 := hc.e1
 rw [hpv] at e1
 have e2 := hc.e2
 have s1 := hr.s1
 have s2 := hr.s2
 have s3 := h.t1
 have s4 := h.w1
 have HL : Hid (R.last r = min (r.an + R.win) r.ps.length) := rfl
 generalize R.last r = la at *
 generalize r.ps.length = pl at *
 generalize r.an = an at *
 have i1 : (0 : Int) ≤ (k : Int) := Int.natCast_nonneg _
 have i2 : (k : Int) < (R.n : Int) := by omega
 clear h hc hr hpv he
 have HB : Hid (∀ n, Below w.heap.size w (w.drewN n)) := fun n => (by apply below_drewN; exact Below.refl _ _)
 by_cases hc : an + R.win > pl
 ·have hgt : (an : Int) + (R.win : Int) > (pl : Int) := by omega
  have Hla : Hid (la = pl) := (show _ = _ from by rw [HL.out]; omega)
  clear HL hc
  go_enter Try.func64, Try.ntmps64
  go_wp2
  go_quiet (fail)
  all_goals (go_wp2; go_ret; exact ⟨by rw [Hla.out]; rfl, by repeat (first | exact Below.refl _ _ | apply below_drewN | apply Below.drew)⟩)
 ·have hgt : ¬ (an : Int) + (R.win : Int) > (pl : Int) := by omega
  have Hla : Hid ((la : Int) = (an : Int) + (R.win : Int)) := (show _ = _ from by rw [HL.out]; omega)
  clear HL hc
  go_enter Try.func64, Try.ntmps64
  go_wp2
  go_quiet (fail)
  all_goals (go_wp2; go_ret; exact ⟨by rw [Hla.out]; rfl, by repeat (first | exact Below.refl _ _ | apply below_drewN | apply Below.drew)⟩)
theorem rroom_no (h : R.Ok w B T) {q : Int} (hq : R.at q = none) : Calls Try.prog 44 #[.pointer (some ⟨R.b, 0, none⟩), .int .i64 q] w fun e w' => e = .returned (.int .i64 0) /\ Below w.heap.size w w' := by
 have HI : Hid (Calls Try.prog 63 #[.pointer (some ⟨R.b, 0, none⟩), .int .i64 q] w fun e w' => e = .returned (.bool false) /\ w = w') := is_no h hq
 clear h hq
 go_enter Try.func44, Try.ntmps44
 go_wp2_with (first | (go_at_call 63; refine HI.out.mono ?_; rintro e w' ⟨rfl, rfl⟩) | fail)
 go_ret
 exact ⟨rfl, Below.refl _ _⟩
theorem rroom_yes (h : R.Ok w B T) {q : Int} (hq : R.at q = some r) : Calls Try.prog 44 #[.pointer (some ⟨R.b, 0, none⟩), .int .i64 q] w fun e w' => e = .returned (.int .i64 ((R.space : Int) - ((r.ps.length : Int) - (r.an : Int)))) /\ Below w.heap.size w w' := by
 have HI : Hid (Calls Try.prog 63 #[.pointer (some ⟨R.b, 0, none⟩), .int .i64 q] w fun e w' => e = .returned (.bool true) /\ w = w') := is_yes h hq
 have HW : Hid (∀ D, Below w.heap.size w D -> Calls Try.prog 48 #[.pointer (some ⟨R.b, 0, none⟩), .int .i64 q] D fun e w' => e = .returned (.int .i64 ((r.ps.length : Int) - (r.an : Int))) /\ Below D.heap.size D w') := fun D hb => rwait_yes (h.still hb) hq
 obtain ⟨k, rfl, hk, he, hpe⟩ := rat_es hq
 have hc := h.ce hk he
 have hr := h.el k hk
 rw [he] at hr
 have c3 := hc.c3
 have s1 := hr.s1
 have s2 := hr.s2
 have s3 := h.t1
 have s4 := h.w1
 generalize r.ps.length = pl at *
 generalize r.an = an at *
 clear h hq hc hr hpe he
 go_enter Try.func44, Try.ntmps44
 go_wp2_with (first | (go_at_call 63; refine HI.out.mono ?_; rintro e w' ⟨rfl, rfl⟩) | fail)
 refine wp_region_held_drew (S := (fun w' => w'.cell? ⟨R.b, 3, none⟩ = some (.int .i64 (R.space : Int)))) (by kernel_rfl) (dW0 c3) (fun hH => ?_)
 simp only [Act.put, lA, lC, lN, zA]
 refine wG 0 (.pointer (some ⟨R.b, 0, none⟩)) rfl hH ?_
 simp only [aP, gA, gZ, gC, sA, sZ, sC]
 refine wG 1 (.pointer (some ⟨R.b, 0, none⟩)) rfl hH ?_
 simp only [aP, gA, gZ, gC, sA, sZ, sC]
 refine wG 2 (.pointer (some ⟨R.b, 3, none⟩)) rfl hH ?_
 simp only [aP, gA, gZ, gC, sA, sZ, sC]
 refine wL 3 (.int .i64 (R.space : Int)) rfl hH ?_
 simp only [aP, gA, gZ, gC, sA, sZ, sC]
 refine wG 4 (.pointer (some ⟨R.b, 0, none⟩)) rfl hH ?_
 simp only [aP, gA, gZ, gC, sA, sZ, sC]
 refine wG 5 (.int .i64 (k : Int)) rfl hH ?_
 simp only [aP, gA, gZ, gC, sA, sZ, sC]
 have hbD : Below w.heap.size w w.drew := dB _
 have q0 := bA hbD c3
 generalize w.drew = D0 at *
 refine rY 6 rfl fun K hK => ?_
 go_simp
 refine (HW.out D0 hbD).mono ?_
 rintro e w2 ⟨rfl, hb2⟩
 refine hK.out _ _ (bA hb2 q0) (fun hH => ?_)
 clear hK K
 refine wX 7 (.int .i64 ((R.space : Int) - ((pl : Int) - (an : Int)))) rfl (Or.inl ⟨by rfl, fun w' hS => by (go_simp <;> exact wrap_id (by omega) (by omega))⟩) hH ?_
 simp only [aP, gA, gZ, gC, sA, sZ, sC]
 refine wG 8 (.int .i64 ((R.space : Int) - ((pl : Int) - (an : Int)))) rfl hH ?_
 simp only [aP, gA, gZ, gC, sA, sZ, sC]
 refine wpAnyH_done (by kernel_rfl) ?_ _
 clear hH
 go_wp2
 go_ret
 exact ⟨rfl, bstep hbD hb2⟩
end
section
variable {w w' W : World} {B T : Nat} {R R' : Rx} {r r' : Rn}
theorem below_set1 {D : World} {k g i j : Nat} {v x : Value} (hn : k ≠ g) (h : D.cell? ⟨k, j, none⟩ = some v) : (D.setCell ⟨g, i, none⟩ x).cell? ⟨k, j, none⟩ = some v := kC (kset (P := fun q => q = g) D g i x rfl) hn h
theorem Rx.Ok.set1 {k i : Nat} {v : Value} (h : R.Ok w B T) (hk : k < R.n) (he : R.es k = r) (hi : i < 6) (hcs : r'.cs = r.cs.set i v) (hpv : r'.pv = r.pv) (hps : r'.ps = r.ps) (hev : r'.ev = r.ev) (hea : r'.ea = r.ea) (s1 : r'.an ≤ r.ps.length) {T' : Nat} (hT : T ≤ T') (hT1 : T' ≤ 1000) (s3 : r'.gt + r.ea.length ≤ T') : Rstep w (w.setCell ⟨R.g, k * 6 + i, none⟩ v) R (R.put k r') B T' := by
 subst he
 have hr := h.el k hk
 have k1 : Kept w (w.setCell ⟨R.g, k * 6 + i, none⟩ v) (fun j => j = R.g) := kset _ _ _ _ rfl
 have hnp : ∀ j, (R.es k).pv.ownBlock = some j -> ¬ j = R.g := fun j hj e => by obtain ⟨C, hC⟩ := h.ty_p hk hj; exact h.row.ne hC (by decide) e.symm
 have hne : ∀ j, (R.es k).ev.ownBlock = some j -> ¬ j = R.g := fun j hj e => by obtain ⟨C, hC⟩ := h.ty_e hk hj; exact h.row.ne hC (by decide) e.symm
 refine h.change hk (k1.mono fun j _ hj => .inl hj) ((h.row.set _ v).congr fun j _ => rrf_upd R.es k i v hi hcs j) ?_ ?_ (fun j hj => by rw [hpv] at hj; exact .inl hj) (fun j hj => by rw [hev] at hj; exact .inl hj) (fun y hy => by rw [hps] at hy; exact .inl hy) (fun x hx => by rw [hea] at hx; exact .inl ⟨x, hx, rfl⟩) (by rw [hps]; exact s1) hT hT1 (by rw [hps]; exact Nat.le_trans hr.s2 hT) (by rw [hea]; exact s3) (by rw [hea]; exact hr.s4)
 ·rw [hpv, hps]; exact k1.owns hr.rp hnp
 ·rw [hev, hea]; exact k1.owns hr.re hne
theorem Rx.Ok.gw (h : R.Ok w B T) {k : Nat} (hk : w.heap.size ≤ k) : k ≠ R.g := fun e => by have := h.row.lt; omega
theorem racked_no (h : R.Ok w B T) {q : Int} (hq : R.at q = none) (t : Tg) (u : Int) : Calls Try.prog 39 #[.pointer (some ⟨R.b, 0, none⟩), .int .i64 q, .agg #[.int .i64 t.e, .int .i64 t.l, .int .i64 t.i, .int .i64 t.c, .int .i64 u]] w fun e w' => e = .returned (.int .i64 41) /\ Below w.heap.size w w' := by
 generalize hW : w.alloc (.cells #[.int .i64 t.e, .int .i64 t.l, .int .i64 t.i, .int .i64 t.c, .int .i64 u] 74) = W
 have hbW := bW0 hW
 have hblk := hQ0 hW
 have a0 : W.cell? ⟨w.heap.size, 0, none⟩ = some (.int .i64 t.e) := bC hblk 0
 have a1 : W.cell? ⟨w.heap.size, 1, none⟩ = some (.int .i64 t.l) := bC hblk 1
 have a2 : W.cell? ⟨w.heap.size, 2, none⟩ = some (.int .i64 t.i) := bC hblk 2
 have a3 : W.cell? ⟨w.heap.size, 3, none⟩ = some (.int .i64 t.c) := bC hblk 3
 have a4 : W.cell? ⟨w.heap.size, 4, none⟩ = some (.int .i64 u) := bC hblk 4
 have hRW := h.still hbW
 have HbW : Hid (Below w.heap.size w W) := hbW
 have HI : Hid (Calls Try.prog 63 #[.pointer (some ⟨R.b, 0, none⟩), .int .i64 q] W fun e w' => e = .returned (.bool false) /\ W = w') := is_no hRW hq
 clear h hq hblk hbW hRW
 go_enter Try.func39, Try.ntmps39
 go_wp2_with (first | (go_at_call 63; refine HI.out.mono ?_; rintro e w' ⟨rfl, rfl⟩) | fail)
 go_ret
 exact ⟨rfl, HbW.out⟩
theorem racked_arg (h : R.Ok w B T) {q : Int} (hq : R.at q = some r) (t : Tg) (u : Int) (hu : inR 0 4611686018427387904 u = false) : Calls Try.prog 39 #[.pointer (some ⟨R.b, 0, none⟩), .int .i64 q, .agg #[.int .i64 t.e, .int .i64 t.l, .int .i64 t.i, .int .i64 t.c, .int .i64 u]] w fun e w' => e = .returned (.int .i64 1) /\ Below w.heap.size w w' := by
 generalize hW : w.alloc (.cells #[.int .i64 t.e, .int .i64 t.l, .int .i64 t.i, .int .i64 t.c, .int .i64 u] 74) = W
 have hbW := bW0 hW
 have hblk := hQ0 hW
 have a0 : W.cell? ⟨w.heap.size, 0, none⟩ = some (.int .i64 t.e) := bC hblk 0
 have a1 : W.cell? ⟨w.heap.size, 1, none⟩ = some (.int .i64 t.l) := bC hblk 1
 have a2 : W.cell? ⟨w.heap.size, 2, none⟩ = some (.int .i64 t.i) := bC hblk 2
 have a3 : W.cell? ⟨w.heap.size, 3, none⟩ = some (.int .i64 t.c) := bC hblk 3
 have a4 : W.cell? ⟨w.heap.size, 4, none⟩ = some (.int .i64 u) := bC hblk 4
 have hRW := h.still hbW
 have HbW : Hid (Below w.heap.size w W) := hbW
 have HI : Hid (Calls Try.prog 63 #[.pointer (some ⟨R.b, 0, none⟩), .int .i64 q] W fun e w' => e = .returned (.bool true) /\ W = w') := is_yes hRW hq
 clear h hq hblk hbW hRW
 by_cases h0 : u < 0
 ·clear hu
  go_enter Try.func39, Try.ntmps39
  go_wp2_with (first | (go_at_call 63; refine HI.out.mono ?_; rintro e w' ⟨rfl, rfl⟩) | fail)
  go_ret
  exact ⟨rfl, HbW.out⟩
 ·have h1 : u > 4611686018427387904 := by simp [inR] at hu; omega
  clear hu
  go_enter Try.func39, Try.ntmps39
  go_wp2_with (first | (go_at_call 63; refine HI.out.mono ?_; rintro e w' ⟨rfl, rfl⟩) | fail)
  go_ret
  exact ⟨rfl, HbW.out⟩
theorem racked_tag (h : R.Ok w B T) {q : Int} (hq : R.at q = some r) (t : Tg) {u : Nat} (hu : u ≤ 4611686018427387904) (ht : ¬ t = R.tag) : Calls Try.prog 39 #[.pointer (some ⟨R.b, 0, none⟩), .int .i64 q, .agg #[.int .i64 t.e, .int .i64 t.l, .int .i64 t.i, .int .i64 t.c, .int .i64 (u : Int)]] w fun e w' => e = .returned (.int .i64 40) /\ Below w.heap.size w w' := by
 generalize hW : w.alloc (.cells #[.int .i64 t.e, .int .i64 t.l, .int .i64 t.i, .int .i64 t.c, .int .i64 (u : Int)] 74) = W
 have hbW := bW0 hW
 have hblk := hQ0 hW
 have a0 : W.cell? ⟨w.heap.size, 0, none⟩ = some (.int .i64 t.e) := bC hblk 0
 have a1 : W.cell? ⟨w.heap.size, 1, none⟩ = some (.int .i64 t.l) := bC hblk 1
 have a2 : W.cell? ⟨w.heap.size, 2, none⟩ = some (.int .i64 t.i) := bC hblk 2
 have a3 : W.cell? ⟨w.heap.size, 3, none⟩ = some (.int .i64 t.c) := bC hblk 3
 have a4 : W.cell? ⟨w.heap.size, 4, none⟩ = some (.int .i64 (u : Int)) := bC hblk 4
 have hRW := h.still hbW
 have HbW : Hid (Below w.heap.size w W) := hbW
 have HI : Hid (Calls Try.prog 63 #[.pointer (some ⟨R.b, 0, none⟩), .int .i64 q] W fun e w' => e = .returned (.bool true) /\ W = w') := is_yes hRW hq
 obtain ⟨k, rfl, hk, he, hpe⟩ := rat_es hq
 have hc := hRW.ce hk he
 have hr := hRW.el k hk
 rw [he] at hr
 have s1 := hr.s1
 have s2 := hr.s2
 have s3 := h.t1
 have s4 := h.w1
 have i1 : (0 : Int) ≤ (k : Int) := Int.natCast_nonneg _
 have i2 : (k : Int) < (R.n : Int) := by omega
 have c4 := hc.c4
 have c5 := hc.c5
 have c6 := hc.c6
 have c7 := hc.c7
 have HQ : Hid (decide (t = R.tag) = false) := (show _ = _ from by rw [decide_eq_false_iff_not]; exact ht)
 have h0 : ¬ (u : Int) < 0 := by omega
 have h1 : ¬ (u : Int) > 4611686018427387904 := by omega
 clear h hq hblk hbW hRW hc hr he hpe ht
 go_enter Try.func39, Try.ntmps39
 go_wp2_with (first | (go_at_call 63; refine HI.out.mono ?_; rintro e w' ⟨rfl, rfl⟩) | fail)
 refine wp_region_held_drew (S := (fun w' => w'.cell? ⟨w.heap.size, 0, none⟩ = some (.int .i64 t.e) /\ w'.cell? ⟨w.heap.size, 1, none⟩ = some (.int .i64 t.l) /\ w'.cell? ⟨w.heap.size, 2, none⟩ = some (.int .i64 t.i) /\ w'.cell? ⟨w.heap.size, 3, none⟩ = some (.int .i64 t.c) /\ w'.cell? ⟨R.b, 4, none⟩ = some (.int .i64 R.tag.e) /\ w'.cell? ⟨R.b, 5, none⟩ = some (.int .i64 R.tag.l) /\ w'.cell? ⟨R.b, 6, none⟩ = some (.int .i64 R.tag.i) /\ w'.cell? ⟨R.b, 7, none⟩ = some (.int .i64 R.tag.c))) (by kernel_rfl) ⟨(dW0 a0), (dW0 a1), (dW0 a2), (dW0 a3), (dW0 c4), (dW0 c5), (dW0 c6), (dW0 c7)⟩ (fun hH => ?_)
 simp only [Act.put, lA, lC, lN, zA]
 refine wG 0 (.pointer (some ⟨w.heap.size, 0, none⟩)) rfl hH ?_
 simp only [aP, gA, gZ, gC, sA, sZ, sC]
 refine wL 1 (.agg #[.int .i64 t.e, .int .i64 t.l, .int .i64 t.i, .int .i64 t.c]) rfl hH ?_
 simp only [aP, gA, gZ, gC, sA, sZ, sC]
 refine wG 2 (.pointer (some ⟨R.b, 0, none⟩)) rfl hH ?_
 simp only [aP, gA, gZ, gC, sA, sZ, sC]
 refine wG 3 (.pointer (some ⟨R.b, 0, none⟩)) rfl hH ?_
 simp only [aP, gA, gZ, gC, sA, sZ, sC]
 refine wG 4 (.pointer (some ⟨R.b, 4, none⟩)) rfl hH ?_
 simp only [aP, gA, gZ, gC, sA, sZ, sC]
 refine wL 5 (.agg #[.int .i64 R.tag.e, .int .i64 R.tag.l, .int .i64 R.tag.i, .int .i64 R.tag.c]) rfl hH ?_
 simp only [aP, gA, gZ, gC, sA, sZ, sC]
 refine wX 6 (.bool (!(false))) rfl (Or.inl ⟨by rfl, fun w' hS => run_neqop 39 (.tmp 20) (.tmp 24) 39 rfl _ _ (by rfl) (by rfl) guard_id _ (by have e1 := eq_tag (w := w') t R.tag; rw [HQ.out] at e1; exact e1)⟩) hH ?_
 simp only [aP, gA, gZ, gC, sA, sZ, sC]
 refine wpAnyH_done (by kernel_rfl) ?_ _
 clear hH
 go_wp2
 go_ret
 exact ⟨rfl, HbW.out.drew⟩
theorem racked_far (h : R.Ok w B T) {q : Int} (hq : R.at q = some r) (t : Tg) {u : Nat} (hu : u ≤ 4611686018427387904) (ht : t = R.tag) (hf : R.last r < u) : Calls Try.prog 39 #[.pointer (some ⟨R.b, 0, none⟩), .int .i64 q, .agg #[.int .i64 t.e, .int .i64 t.l, .int .i64 t.i, .int .i64 t.c, .int .i64 (u : Int)]] w fun e w' => e = .returned (.int .i64 43) /\ Below w.heap.size w w' := by
 generalize hW : w.alloc (.cells #[.int .i64 t.e, .int .i64 t.l, .int .i64 t.i, .int .i64 t.c, .int .i64 (u : Int)] 74) = W
 have hbW := bW0 hW
 have hblk := hQ0 hW
 have a0 : W.cell? ⟨w.heap.size, 0, none⟩ = some (.int .i64 t.e) := bC hblk 0
 have a1 : W.cell? ⟨w.heap.size, 1, none⟩ = some (.int .i64 t.l) := bC hblk 1
 have a2 : W.cell? ⟨w.heap.size, 2, none⟩ = some (.int .i64 t.i) := bC hblk 2
 have a3 : W.cell? ⟨w.heap.size, 3, none⟩ = some (.int .i64 t.c) := bC hblk 3
 have a4 : W.cell? ⟨w.heap.size, 4, none⟩ = some (.int .i64 (u : Int)) := bC hblk 4
 have hRW := h.still hbW
 have HbW : Hid (Below w.heap.size w W) := hbW
 have HI : Hid (Calls Try.prog 63 #[.pointer (some ⟨R.b, 0, none⟩), .int .i64 q] W fun e w' => e = .returned (.bool true) /\ W = w') := is_yes hRW hq
 obtain ⟨k, rfl, hk, he, hpe⟩ := rat_es hq
 have hc := hRW.ce hk he
 have hr := hRW.el k hk
 rw [he] at hr
 have s1 := hr.s1
 have s2 := hr.s2
 have s3 := h.t1
 have s4 := h.w1
 have i1 : (0 : Int) ≤ (k : Int) := Int.natCast_nonneg _
 have i2 : (k : Int) < (R.n : Int) := by omega
 have c4 := hc.c4
 have c5 := hc.c5
 have c6 := hc.c6
 have c7 := hc.c7
 have HQ : Hid (decide (t = R.tag) = true) := (show _ = _ from by rw [decide_eq_true_eq]; exact ht)
 have h0 : ¬ (u : Int) < 0 := by omega
 have h1 : ¬ (u : Int) > 4611686018427387904 := by omega
 have HLa0 : Hid (∀ D, Below W.heap.size W D -> Calls Try.prog 64 #[.pointer (some ⟨R.b, 0, none⟩), .int .i64 (k : Int)] D fun e w' => e = .returned (.int .i64 (R.last r : Int)) /\ Below D.heap.size D w') := fun D hb => rlast_any (hRW.still hb) hk he
 generalize R.last r = la at *
 clear h hq hblk hbW hRW hc hr he hpe ht
 go_enter Try.func39, Try.ntmps39
 go_wp2_with (first | (go_at_call 63; refine HI.out.mono ?_; rintro e w' ⟨rfl, rfl⟩) | fail)
 refine wp_region_held_drew (S := (fun w' => w'.cell? ⟨w.heap.size, 0, none⟩ = some (.int .i64 t.e) /\ w'.cell? ⟨w.heap.size, 1, none⟩ = some (.int .i64 t.l) /\ w'.cell? ⟨w.heap.size, 2, none⟩ = some (.int .i64 t.i) /\ w'.cell? ⟨w.heap.size, 3, none⟩ = some (.int .i64 t.c) /\ w'.cell? ⟨R.b, 4, none⟩ = some (.int .i64 R.tag.e) /\ w'.cell? ⟨R.b, 5, none⟩ = some (.int .i64 R.tag.l) /\ w'.cell? ⟨R.b, 6, none⟩ = some (.int .i64 R.tag.i) /\ w'.cell? ⟨R.b, 7, none⟩ = some (.int .i64 R.tag.c))) (by kernel_rfl) ⟨(dW0 a0), (dW0 a1), (dW0 a2), (dW0 a3), (dW0 c4), (dW0 c5), (dW0 c6), (dW0 c7)⟩ (fun hH => ?_)
 simp only [Act.put, lA, lC, lN, zA]
 refine wG 0 (.pointer (some ⟨w.heap.size, 0, none⟩)) rfl hH ?_
 simp only [aP, gA, gZ, gC, sA, sZ, sC]
 refine wL 1 (.agg #[.int .i64 t.e, .int .i64 t.l, .int .i64 t.i, .int .i64 t.c]) rfl hH ?_
 simp only [aP, gA, gZ, gC, sA, sZ, sC]
 refine wG 2 (.pointer (some ⟨R.b, 0, none⟩)) rfl hH ?_
 simp only [aP, gA, gZ, gC, sA, sZ, sC]
 refine wG 3 (.pointer (some ⟨R.b, 0, none⟩)) rfl hH ?_
 simp only [aP, gA, gZ, gC, sA, sZ, sC]
 refine wG 4 (.pointer (some ⟨R.b, 4, none⟩)) rfl hH ?_
 simp only [aP, gA, gZ, gC, sA, sZ, sC]
 refine wL 5 (.agg #[.int .i64 R.tag.e, .int .i64 R.tag.l, .int .i64 R.tag.i, .int .i64 R.tag.c]) rfl hH ?_
 simp only [aP, gA, gZ, gC, sA, sZ, sC]
 refine wX 6 (.bool (!(true))) rfl (Or.inl ⟨by rfl, fun w' hS => run_neqop 39 (.tmp 20) (.tmp 24) 39 rfl _ _ (by rfl) (by rfl) guard_id _ (by have e1 := eq_tag (w := w') t R.tag; rw [HQ.out] at e1; exact e1)⟩) hH ?_
 simp only [aP, gA, gZ, gC, sA, sZ, sC]
 refine wpAnyH_done (by kernel_rfl) ?_ _
 clear hH
 have hbD : Below W.heap.size W W.drew := dB _
 have b4 := bA hbD a4
 have HLa : Hid (∀ D, Below W.drew.heap.size W.drew D -> Calls Try.prog 64 #[.pointer (some ⟨R.b, 0, none⟩), .int .i64 (k : Int)] D fun e w' => e = .returned (.int .i64 (la : Int)) /\ Below D.heap.size D w') := fun D hb => HLa0.out D (bstep hbD hb)
 have HbV : Hid (Below w.heap.size w W.drew) := HbW.out.drew
 generalize W.drew = V at *
 clear HLa0 hbD
 go_wp2
 refine wp_region_held_drew (S := (fun w' => w'.cell? ⟨w.heap.size, 4, none⟩ = some (.int .i64 (u : Int)))) (by kernel_rfl) (dW0 b4) (fun hH => ?_)
 simp only [Act.put, lA, lC, lN, zA]
 refine wG 0 (.pointer (some ⟨w.heap.size, 4, none⟩)) rfl hH ?_
 simp only [aP, gA, gZ, gC, sA, sZ, sC]
 refine wL 1 (.int .i64 (u : Int)) rfl hH ?_
 simp only [aP, gA, gZ, gC, sA, sZ, sC]
 refine wG 2 (.pointer (some ⟨R.b, 0, none⟩)) rfl hH ?_
 simp only [aP, gA, gZ, gC, sA, sZ, sC]
 refine wG 3 (.int .i64 (k : Int)) rfl hH ?_
 simp only [aP, gA, gZ, gC, sA, sZ, sC]
 have hbD1 : Below V.heap.size V V.drew := dB _
 have q0 := bA hbD1 b4
 generalize V.drew = D1 at *
 refine rY 4 rfl fun K hK => ?_
 go_simp
 refine (HLa.out D1 hbD1).mono ?_
 rintro e w2 ⟨rfl, hb2⟩
 refine hK.out _ _ (bA hb2 q0) (fun hH => ?_)
 clear hK K
 refine wX 5 (.bool true) rfl (Or.inl ⟨by rfl, fun w' hS => by (go_simp <;> omega)⟩) hH ?_
 simp only [aP, gA, gZ, gC, sA, sZ, sC]
 refine wpAnyH_done (by kernel_rfl) ?_ _
 clear hH
 have HZ : Hid (Below w.heap.size w w2) := (show Below _ _ _ from bstep (bstep HbV.out hbD1) hb2)
 clear hbD1 hb2 q0 b4 HLa
 go_wp2
 go_ret
 exact ⟨rfl, HZ.out⟩
theorem racked_ok (h : R.Ok w B T) {q : Int} (hq : R.at q = some r) (t : Tg) {u : Nat} (hu : u ≤ 4611686018427387904) (ht : t = R.tag) (hf : u ≤ R.last r) : Calls Try.prog 39 #[.pointer (some ⟨R.b, 0, none⟩), .int .i64 q, .agg #[.int .i64 t.e, .int .i64 t.l, .int .i64 t.i, .int .i64 t.c, .int .i64 (u : Int)]] w fun e w' => e = .returned (.int .i64 0) /\ ∃ k : Nat, q = (k : Int) /\ k < R.n /\ Rstep w w' R (R.put k { r with an := max r.an u }) B T := by
 generalize hW : w.alloc (.cells #[.int .i64 t.e, .int .i64 t.l, .int .i64 t.i, .int .i64 t.c, .int .i64 (u : Int)] 74) = W
 have hbW := bW0 hW
 have hblk := hQ0 hW
 have a0 : W.cell? ⟨w.heap.size, 0, none⟩ = some (.int .i64 t.e) := bC hblk 0
 have a1 : W.cell? ⟨w.heap.size, 1, none⟩ = some (.int .i64 t.l) := bC hblk 1
 have a2 : W.cell? ⟨w.heap.size, 2, none⟩ = some (.int .i64 t.i) := bC hblk 2
 have a3 : W.cell? ⟨w.heap.size, 3, none⟩ = some (.int .i64 t.c) := bC hblk 3
 have a4 : W.cell? ⟨w.heap.size, 4, none⟩ = some (.int .i64 (u : Int)) := bC hblk 4
 have hRW := h.still hbW
 have HbW : Hid (Below w.heap.size w W) := hbW
 have HI : Hid (Calls Try.prog 63 #[.pointer (some ⟨R.b, 0, none⟩), .int .i64 q] W fun e w' => e = .returned (.bool true) /\ W = w') := is_yes hRW hq
 obtain ⟨k, rfl, hk, he, hpe⟩ := rat_es hq
 have hc := hRW.ce hk he
 have hr := hRW.el k hk
 rw [he] at hr
 have s1 := hr.s1
 have s2 := hr.s2
 have s3 := h.t1
 have s4 := h.w1
 have i1 : (0 : Int) ≤ (k : Int) := Int.natCast_nonneg _
 have i2 : (k : Int) < (R.n : Int) := by omega
 have c4 := hc.c4
 have c5 := hc.c5
 have c6 := hc.c6
 have c7 := hc.c7
 have HQ : Hid (decide (t = R.tag) = true) := (show _ = _ from by rw [decide_eq_true_eq]; exact ht)
 have h0 : ¬ (u : Int) < 0 := by omega
 have h1 : ¬ (u : Int) > 4611686018427387904 := by omega
 have hlp : R.last r ≤ r.ps.length := by unfold Rx.last; omega
 have HLa0 : Hid (∀ D, Below W.heap.size W D -> Calls Try.prog 64 #[.pointer (some ⟨R.b, 0, none⟩), .int .i64 (k : Int)] D fun e w' => e = .returned (.int .i64 (R.last r : Int)) /\ Below D.heap.size D w') := fun D hb => rlast_any (hRW.still hb) hk he
 obtain ⟨la, hla⟩ : ∃ l, R.last r = l := ⟨_, rfl⟩
 rw [hla] at HLa0 hf hlp
 have HR : Hid (R.Ok W B T) := hRW
 have He : Hid (R.es k = r) := he
 have Hlp : Hid (la ≤ r.ps.length /\ r.gt + r.ea.length ≤ T) := (show _ /\ _ from ⟨hlp, hr.s3⟩)
 have hne1 : w.heap.size ≠ R.g := h.gw (Nat.le_refl _)
 have hne2 : R.b ≠ R.g := h.b_g
 clear hblk hbW hRW hc hr he hpe ht hla hq hlp
 have HR0 : Hid (R.Ok w B T) := h
 clear h
 go_enter Try.func39, Try.ntmps39
 go_wp2_with (first | (go_at_call 63; refine HI.out.mono ?_; rintro e w' ⟨rfl, rfl⟩) | fail)
 refine wp_region_held_drew (S := (fun w' => w'.cell? ⟨w.heap.size, 0, none⟩ = some (.int .i64 t.e) /\ w'.cell? ⟨w.heap.size, 1, none⟩ = some (.int .i64 t.l) /\ w'.cell? ⟨w.heap.size, 2, none⟩ = some (.int .i64 t.i) /\ w'.cell? ⟨w.heap.size, 3, none⟩ = some (.int .i64 t.c) /\ w'.cell? ⟨R.b, 4, none⟩ = some (.int .i64 R.tag.e) /\ w'.cell? ⟨R.b, 5, none⟩ = some (.int .i64 R.tag.l) /\ w'.cell? ⟨R.b, 6, none⟩ = some (.int .i64 R.tag.i) /\ w'.cell? ⟨R.b, 7, none⟩ = some (.int .i64 R.tag.c))) (by kernel_rfl) ⟨(dW0 a0), (dW0 a1), (dW0 a2), (dW0 a3), (dW0 c4), (dW0 c5), (dW0 c6), (dW0 c7)⟩ (fun hH => ?_)
 simp only [Act.put, lA, lC, lN, zA]
 refine wG 0 (.pointer (some ⟨w.heap.size, 0, none⟩)) rfl hH ?_
 simp only [aP, gA, gZ, gC, sA, sZ, sC]
 refine wL 1 (.agg #[.int .i64 t.e, .int .i64 t.l, .int .i64 t.i, .int .i64 t.c]) rfl hH ?_
 simp only [aP, gA, gZ, gC, sA, sZ, sC]
 refine wG 2 (.pointer (some ⟨R.b, 0, none⟩)) rfl hH ?_
 simp only [aP, gA, gZ, gC, sA, sZ, sC]
 refine wG 3 (.pointer (some ⟨R.b, 0, none⟩)) rfl hH ?_
 simp only [aP, gA, gZ, gC, sA, sZ, sC]
 refine wG 4 (.pointer (some ⟨R.b, 4, none⟩)) rfl hH ?_
 simp only [aP, gA, gZ, gC, sA, sZ, sC]
 refine wL 5 (.agg #[.int .i64 R.tag.e, .int .i64 R.tag.l, .int .i64 R.tag.i, .int .i64 R.tag.c]) rfl hH ?_
 simp only [aP, gA, gZ, gC, sA, sZ, sC]
 refine wX 6 (.bool (!(true))) rfl (Or.inl ⟨by rfl, fun w' hS => run_neqop 39 (.tmp 20) (.tmp 24) 39 rfl _ _ (by rfl) (by rfl) guard_id _ (by have e1 := eq_tag (w := w') t R.tag; rw [HQ.out] at e1; exact e1)⟩) hH ?_
 simp only [aP, gA, gZ, gC, sA, sZ, sC]
 refine wpAnyH_done (by kernel_rfl) ?_ _
 clear hH
 have hbD : Below W.heap.size W W.drew := dB _
 have b4 := bA hbD a4
 have HLa : Hid (∀ D, Below W.drew.heap.size W.drew D -> Calls Try.prog 64 #[.pointer (some ⟨R.b, 0, none⟩), .int .i64 (k : Int)] D fun e w' => e = .returned (.int .i64 (la : Int)) /\ Below D.heap.size D w') := fun D hb => HLa0.out D (bstep hbD hb)
 have HbV : Hid (Below w.heap.size w W.drew) := HbW.out.drew
 have HbV2 : Hid (Below W.heap.size W W.drew) := hbD
 generalize W.drew = V at *
 clear HLa0 hbD
 go_wp2
 refine wp_region_held_drew (S := (fun w' => w'.cell? ⟨w.heap.size, 4, none⟩ = some (.int .i64 (u : Int)))) (by kernel_rfl) (dW0 b4) (fun hH => ?_)
 simp only [Act.put, lA, lC, lN, zA]
 refine wG 0 (.pointer (some ⟨w.heap.size, 4, none⟩)) rfl hH ?_
 simp only [aP, gA, gZ, gC, sA, sZ, sC]
 refine wL 1 (.int .i64 (u : Int)) rfl hH ?_
 simp only [aP, gA, gZ, gC, sA, sZ, sC]
 refine wG 2 (.pointer (some ⟨R.b, 0, none⟩)) rfl hH ?_
 simp only [aP, gA, gZ, gC, sA, sZ, sC]
 refine wG 3 (.int .i64 (k : Int)) rfl hH ?_
 simp only [aP, gA, gZ, gC, sA, sZ, sC]
 have hbD1 : Below V.heap.size V V.drew := dB _
 have q0 := bA hbD1 b4
 generalize V.drew = D1 at *
 refine rY 4 rfl fun K hK => ?_
 go_simp
 refine (HLa.out D1 hbD1).mono ?_
 rintro e w2 ⟨rfl, hb2⟩
 refine hK.out _ _ (bA hb2 q0) (fun hH => ?_)
 clear hK K
 refine wX 5 (.bool false) rfl (Or.inl ⟨by rfl, fun w' hS => by (go_simp <;> omega)⟩) hH ?_
 simp only [aP, gA, gZ, gC, sA, sZ, sC]
 refine wpAnyH_done (by kernel_rfl) ?_ _
 clear hH
 have HZ : Hid (Below W.heap.size W w2) := (show Below _ _ _ from bstep (bstep HbV2.out hbD1) hb2)
 have HR2 : Hid (R.Ok w2 B T) := HR.out.still HZ.out
 have d4 := bA hb2 q0
 have hc2 := HR2.out.ce hk He.out
 have d8 := hc2.c8
 have e2 := hc2.e2
 have HZ0 : Hid (Below w.heap.size w w2) := (show Below _ _ _ from bstep (bstep HbV.out hbD1) hb2)
 obtain ⟨an, han⟩ : ∃ a, r.an = a := ⟨_, rfl⟩
 have Han : Hid (r.an = an) := han
 have s5 : an ≤ 1000 := by omega
 rw [han] at e2
 clear hbD1 hb2 q0 b4 HLa hc2 han HbV HbV2 HZ s1
 by_cases hua : an < u
 ·go_wp2
  refine wp_region_held_drew (S := (fun w' => w'.cell? ⟨w.heap.size, 4, none⟩ = some (.int .i64 (u : Int)) /\ w'.cell? ⟨R.b, 8, none⟩ = some (.slice (some ⟨R.g, 0, none⟩) R.n R.c) /\ w'.cell? ⟨R.g, k * 6 + 2, none⟩ = some (.int .i64 (an : Int)))) (by kernel_rfl) ⟨(dW0 d4), (dW0 d8), (dW0 e2)⟩ (fun hH => ?_)
  simp only [Act.put, lA, lC, lN, zA]
  refine wG 0 (.pointer (some ⟨w.heap.size, 4, none⟩)) rfl hH ?_
  simp only [aP, gA, gZ, gC, sA, sZ, sC]
  refine wL 1 (.int .i64 (u : Int)) rfl hH ?_
  simp only [aP, gA, gZ, gC, sA, sZ, sC]
  refine wG 2 (.pointer (some ⟨R.b, 0, none⟩)) rfl hH ?_
  simp only [aP, gA, gZ, gC, sA, sZ, sC]
  refine wG 3 (.pointer (some ⟨R.b, 0, none⟩)) rfl hH ?_
  simp only [aP, gA, gZ, gC, sA, sZ, sC]
  refine wG 4 (.pointer (some ⟨R.b, 8, none⟩)) rfl hH ?_
  simp only [aP, gA, gZ, gC, sA, sZ, sC]
  refine wL 5 (.slice (some ⟨R.g, 0, none⟩) R.n R.c) rfl hH ?_
  simp only [aP, gA, gZ, gC, sA, sZ, sC]
  refine wG 6 (.int .i64 (k : Int)) rfl hH ?_
  simp only [aP, gA, gZ, gC, sA, sZ, sC]
  refine wG 7 (.pointer (some ⟨R.g, k * 6, none⟩)) rfl hH ?_
  simp only [aP, gA, gZ, gC, sA, sZ, sC]
  refine wG 8 (.pointer (some ⟨R.g, k * 6 + 2, none⟩)) rfl hH ?_
  simp only [aP, gA, gZ, gC, sA, sZ, sC]
  refine wL 9 (.int .i64 (an : Int)) rfl hH ?_
  simp only [aP, gA, gZ, gC, sA, sZ, sC]
  refine wX 10 (.bool true) rfl (Or.inl ⟨by rfl, fun w' hS => by (go_simp <;> omega)⟩) hH ?_
  simp only [aP, gA, gZ, gC, sA, sZ, sC]
  refine wpAnyH_done (by kernel_rfl) ?_ _
  clear hH
  have hbE : Below w2.heap.size w2 w2.drew := dB _
  have HE : Hid (R.Ok w2.drew B T) := HR2.out.still hbE
  have HZE : Hid (Below w.heap.size w w2.drew) := bstep HZ0.out hbE
  have d4 := bA hbE d4
  have d8 := bA hbE d8
  generalize w2.drew = V2 at *
  have Hua : Hid (an < u) := hua
  clear hbE e2 hua HR2 HZ0
  go_wp2
  refine wp_region_held_drew (S := (fun w' => w'.cell? ⟨w.heap.size, 4, none⟩ = some (.int .i64 (u : Int)) /\ w'.cell? ⟨R.b, 8, none⟩ = some (.slice (some ⟨R.g, 0, none⟩) R.n R.c))) (by kernel_rfl) ⟨(dW0 d4), (dW0 d8)⟩ (fun hH => ?_)
  simp only [Act.put, lA, lC, lN, zA]
  refine wG 0 (.pointer (some ⟨R.b, 0, none⟩)) rfl hH ?_
  simp only [aP, gA, gZ, gC, sA, sZ, sC]
  refine wG 1 (.pointer (some ⟨R.b, 0, none⟩)) rfl hH ?_
  simp only [aP, gA, gZ, gC, sA, sZ, sC]
  refine wG 2 (.pointer (some ⟨R.b, 8, none⟩)) rfl hH ?_
  simp only [aP, gA, gZ, gC, sA, sZ, sC]
  refine wL 3 (.slice (some ⟨R.g, 0, none⟩) R.n R.c) rfl hH ?_
  simp only [aP, gA, gZ, gC, sA, sZ, sC]
  refine wG 4 (.int .i64 (k : Int)) rfl hH ?_
  simp only [aP, gA, gZ, gC, sA, sZ, sC]
  refine wG 5 (.pointer (some ⟨w.heap.size, 4, none⟩)) rfl hH ?_
  simp only [aP, gA, gZ, gC, sA, sZ, sC]
  refine wL 6 (.int .i64 (u : Int)) rfl hH ?_
  simp only [aP, gA, gZ, gC, sA, sZ, sC]
  refine wG 7 (.pointer (some ⟨R.g, k * 6, none⟩)) rfl hH ?_
  simp only [aP, gA, gZ, gC, sA, sZ, sC]
  refine wG 8 (.pointer (some ⟨R.g, k * 6 + 2, none⟩)) rfl hH ?_
  simp only [aP, gA, gZ, gC, sA, sZ, sC]
  have hbD3 : Below V2.heap.size V2 V2.drew := dB _
  have zq0 := bA hbD3 d4
  have zq1 := bA hbD3 d8
  generalize V2.drew = D3 at *
  refine rY 9 rfl fun K hK => ?_
  have hzc := ((HE.out.still hbD3).ce hk He.out).e2
  have hzf := (HE.out.still hbD3).row.fz (k * 6 + 2)
  go_simp
  refine hK.out _ _ ⟨below_set1 hne1 zq0, below_set1 hne2 zq1⟩ (fun hH => ?_)
  clear hK K
  refine wpAnyH_done (by kernel_rfl) ?_ _
  clear hH
  have e9 : max r.an u = u := by rw [Han.out]; have := Hua.out; omega
  have HS := (HE.out.still hbD3).set1 (i := 2) (v := .int .i64 (u : Int)) (r' := { r with an := max r.an u }) hk He.out (by omega) (by rw [e9]; rfl) rfl rfl rfl rfl (by show max r.an u ≤ _; have := Hlp.out.1; have := Hua.out; rw [Han.out]; omega) (Nat.le_refl _) s3 Hlp.out.2
  have HF : Hid (Rstep w (D3.setCell ⟨R.g, k * 6 + 2, none⟩ (.int .i64 (u : Int))) R (R.put k { r with an := max r.an u }) B T) := (show Rstep _ _ _ _ _ _ from (Rstep.below HR0.out (bstep HZE.out hbD3)).trans HS)
  clear HS e9
  go_wp2
  go_ret
  exact ⟨rfl, k, rfl, hk, HF.out⟩
 ·have HF : Hid (Rstep w w2.drew R (R.put k { r with an := max r.an u }) B T) := (show Rstep _ _ _ _ _ _ from by
   have e9 : max r.an u = r.an := by rw [Han.out]; omega
   have e8 : R.put k { r with an := max r.an u } = R := by
    rw [e9]
    unfold Rx.put
    rw [<- He.out, show upd R.es k { R.es k with an := (R.es k).an } = R.es from upd_self _ _]
   rw [e8]
   exact Rstep.below HR0.out HZ0.out.drew)
  go_wp2
  refine wp_region_held_drew (S := (fun w' => w'.cell? ⟨w.heap.size, 4, none⟩ = some (.int .i64 (u : Int)) /\ w'.cell? ⟨R.b, 8, none⟩ = some (.slice (some ⟨R.g, 0, none⟩) R.n R.c) /\ w'.cell? ⟨R.g, k * 6 + 2, none⟩ = some (.int .i64 (an : Int)))) (by kernel_rfl) ⟨(dW0 d4), (dW0 d8), (dW0 e2)⟩ (fun hH => ?_)
  simp only [Act.put, lA, lC, lN, zA]
  refine wG 0 (.pointer (some ⟨w.heap.size, 4, none⟩)) rfl hH ?_
  simp only [aP, gA, gZ, gC, sA, sZ, sC]
  refine wL 1 (.int .i64 (u : Int)) rfl hH ?_
  simp only [aP, gA, gZ, gC, sA, sZ, sC]
  refine wG 2 (.pointer (some ⟨R.b, 0, none⟩)) rfl hH ?_
  simp only [aP, gA, gZ, gC, sA, sZ, sC]
  refine wG 3 (.pointer (some ⟨R.b, 0, none⟩)) rfl hH ?_
  simp only [aP, gA, gZ, gC, sA, sZ, sC]
  refine wG 4 (.pointer (some ⟨R.b, 8, none⟩)) rfl hH ?_
  simp only [aP, gA, gZ, gC, sA, sZ, sC]
  refine wL 5 (.slice (some ⟨R.g, 0, none⟩) R.n R.c) rfl hH ?_
  simp only [aP, gA, gZ, gC, sA, sZ, sC]
  refine wG 6 (.int .i64 (k : Int)) rfl hH ?_
  simp only [aP, gA, gZ, gC, sA, sZ, sC]
  refine wG 7 (.pointer (some ⟨R.g, k * 6, none⟩)) rfl hH ?_
  simp only [aP, gA, gZ, gC, sA, sZ, sC]
  refine wG 8 (.pointer (some ⟨R.g, k * 6 + 2, none⟩)) rfl hH ?_
  simp only [aP, gA, gZ, gC, sA, sZ, sC]
  refine wL 9 (.int .i64 (an : Int)) rfl hH ?_
  simp only [aP, gA, gZ, gC, sA, sZ, sC]
  refine wX 10 (.bool false) rfl (Or.inl ⟨by rfl, fun w' hS => by (go_simp <;> omega)⟩) hH ?_
  simp only [aP, gA, gZ, gC, sA, sZ, sC]
  refine wpAnyH_done (by kernel_rfl) ?_ _
  clear hH
  go_wp2
  go_ret
  exact ⟨rfl, k, rfl, hk, HF.out⟩
end
end Go.Proofs.Ythanifbimndhaaa.Ln
