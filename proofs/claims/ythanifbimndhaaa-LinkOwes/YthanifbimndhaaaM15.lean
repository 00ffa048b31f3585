import Derived.Test.YthanifbimndhaaaM8
import Derived.Test.YthanifbimndhaaaM7
import Derived.Test.YthanifbimndhaaaM14
namespace Go.Proofs.Ythanifbimndhaaa.Ln
set_option maxHeartbeats 40000000
open Go.RowKit Mb
set_option linter.unusedVariables false
set_option maxRecDepth 100000
set_option linter.unusedSimpArgs false
section
variable {w w' W : World} {B : Nat}
theorem sameF_any {t : Tg} {s : Int} {a1 a2 : Option Addr} {n c1 c2 : Nat} {bs : List Int} (h1 : Rd w a1 n c1 bs) (h2 : Rd w a2 n c2 bs) (hn : n ≤ 1000000) : Calls Try.prog 22 #[.agg #[.int .i64 t.e, .int .i64 t.l, .int .i64 t.i, .int .i64 t.c, .int .i64 s, .slice a1 n c1], .agg #[.int .i64 t.e, .int .i64 t.l, .int .i64 t.i, .int .i64 t.c, .int .i64 s, .slice a2 n c2]] w fun e w' => e = .returned (.bool true) /\ Below w.heap.size w w' := by
 generalize hW : w.alloc (.cells #[.int .i64 t.e, .int .i64 t.l, .int .i64 t.i, .int .i64 t.c, .int .i64 s, .slice a1 n c1] 55) = W
 have hbW := bW0 hW
 have hk1 : W.heap[w.heap.size]? = some (.cells #[.int .i64 t.e, .int .i64 t.l, .int .i64 t.i, .int .i64 t.c, .int .i64 s, .slice a1 n c1] 55 (0, 0)) := by rw [<- hW]; exact heap_alloc_new _ _
 generalize hV : W.alloc (.cells #[.int .i64 t.e, .int .i64 t.l, .int .i64 t.i, .int .i64 t.c, .int .i64 s, .slice a2 n c2] 55) = V
 have hbV : Below W.heap.size W V := by rw [<- hV]; exact balloc (Below.refl _ _)
 have hk2 : V.heap[W.heap.size]? = some (.cells #[.int .i64 t.e, .int .i64 t.l, .int .i64 t.i, .int .i64 t.c, .int .i64 s, .slice a2 n c2] 55 (0, 0)) := by rw [<- hV]; exact heap_alloc_new _ _
 have p0 := bA hbV (bC hk1 0)
 have p1 := bA hbV (bC hk1 1)
 have p2 := bA hbV (bC hk1 2)
 have p3 := bA hbV (bC hk1 3)
 have p4 := bA hbV (bC hk1 4)
 have p5 := bA hbV (bC hk1 5)
 have r0 : V.cell? ⟨W.heap.size, 0, none⟩ = some (.int .i64 t.e) := bC hk2 0
 have r1 : V.cell? ⟨W.heap.size, 1, none⟩ = some (.int .i64 t.l) := bC hk2 1
 have r2 : V.cell? ⟨W.heap.size, 2, none⟩ = some (.int .i64 t.i) := bC hk2 2
 have r3 : V.cell? ⟨W.heap.size, 3, none⟩ = some (.int .i64 t.c) := bC hk2 3
 have r4 : V.cell? ⟨W.heap.size, 4, none⟩ = some (.int .i64 s) := bC hk2 4
 have r5 : V.cell? ⟨W.heap.size, 5, none⟩ = some (.slice a2 n c2) := bC hk2 5
 have hwv : Below w.heap.size w V := bstep hbW hbV
 have HB : Hid (Below w.heap.size w V) := hwv
 have HS : Hid (Calls Try.prog 27 #[.slice a1 n c1, .slice a2 n c2] V fun e w' => e = .returned (.bool true) /\ Below V.heap.size V w') := (show Calls _ _ _ _ _ from same_eq (h1.still hwv) (h2.still hwv) hn)
 have HE : Hid (∀ D : World, (Op.equalIn 10000 39 (.agg #[.int .i64 t.e, .int .i64 t.l, .int .i64 t.i, .int .i64 t.c]) (.agg #[.int .i64 t.e, .int .i64 t.l, .int .i64 t.i, .int .i64 t.c])).run Try.prog D = .ok true D) := fun D => (show _ = _ from by have := eq_tag (w := D) t t; rw [decide_eq_true (rfl : t = t)] at this; exact this)
 clear h1 h2 hbW hk1 hbV hk2 hwv hn
 go_enter Try.func22, Try.ntmps22
 go_wp2_with (first | (refine eql_step 39 (.tmp 6) (.tmp 8) 39 (HE.out _) guard_id rfl rfl rfl rfl ?_) | (go_at_call 27; refine HS.out.mono ?_; rintro e w' ⟨rfl, hb⟩) | fail)
 have HR : Hid (Below w.heap.size w w') := (show Below _ _ _ from bstep HB.out hb)
 clear hb p0 p1 p2 p3 p4 p5 r0 r1 r2 r3 r4 r5
 go_wp2
 go_ret
 exact ⟨rfl, HR.out⟩
structure Fm where
 t : Tg
 s : Int
 y : Bn
def Fm.cs (f : Fm) : List Value := [.int .i64 f.t.e, .int .i64 f.t.l, .int .i64 f.t.i, .int .i64 f.t.c, .int .i64 f.s, f.y.v]
def fmR (fs : List Fm) : List Value := fs.flatMap Fm.cs
theorem fmR_len (fs : List Fm) : (fmR fs).length = fs.length * 6 := by
 induction fs with
 | nil => rfl
 | cons f fs ih => simp only [fmR, List.flatMap_cons, List.length_append, List.length_cons] at *; rw [ih]; simp [Fm.cs]; omega
theorem flat_get {α : Type} (g : α -> List Value) (m : Nat) (hm : ∀ x, (g x).length = m) : ∀ (fs : List α) (k : Nat) (f : α), fs[k]? = some f -> ∀ j, j < m -> (fs.flatMap g)[k * m + j]? = (g f)[j]?
 | [], k, f, hk, j, hj => by simp at hk
 | q :: fs, 0, f, hk, j, hj => by
   simp at hk
   subst hk
   simp only [List.flatMap_cons, Nat.zero_mul, Nat.zero_add]
   rw [List.getElem?_append_left (by rw [hm]; exact hj)]
 | q :: fs, k + 1, f, hk, j, hj => by
   simp only [List.getElem?_cons_succ] at hk
   have h := flat_get g m hm fs k f hk j hj
   simp only [List.flatMap_cons]
   rw [List.getElem?_append_right (by rw [hm, Nat.add_mul]; omega), <- h]
   congr 1
   rw [hm, Nat.add_mul]
   omega
theorem fmR_get (fs : List Fm) (k : Nat) (f : Fm) (hk : fs[k]? = some f) (j : Nat) (hj : j < 6) : (fmR fs)[k * 6 + j]? = f.cs[j]? := flat_get Fm.cs 6 (fun _ => rfl) fs k f hk j hj
theorem fmR_snoc (fs : List Fm) (f : Fm) : fmR (fs ++ [f]) = fmR fs ++ f.cs := by simp [fmR]
structure FRd (w : World) (la : Option Addr) (n : Nat) (fs : List Fm) : Prop where
 len : fs.length = n
 at_ : 0 < n -> ∃ lb, la = some ⟨lb, 0, none⟩ /\ ∀ i f, fs[i]? = some f -> ∀ j v, f.cs[j]? = some v -> w.cell? ⟨lb, i * 6 + j, none⟩ = some v
theorem FRd.still {la : Option Addr} {n : Nat} {fs : List Fm} (h : FRd w la n fs) (hb : Below w.heap.size w w') : FRd w' la n fs :=
 ⟨h.len, fun hn => by obtain ⟨lb, h1, h2⟩ := h.at_ hn; exact ⟨lb, h1, fun i f hf j v hv => bA hb (h2 i f hf j v hv)⟩⟩
theorem FRd.of {t B n c : Nat} {la : Option Addr} {fs : List Fm} (h : w.ownsRow B t 6 (.slice la n c) n (fmR fs)) : FRd w la n fs := by
 have hl := h.1
 rw [fmR_len] at hl
 refine ⟨by omega, fun hn => ?_⟩
 rcases h.2 with ⟨h1, h2⟩ | ⟨g, cap, cur, hv, _⟩
 ·omega
 ·simp only [Value.slice.injEq] at hv
  obtain ⟨rfl, _, rfl⟩ := hv
  refine ⟨g, rfl, fun i f hf j v hv => ?_⟩
  have hi : i < fs.length := (List.getElem?_eq_some_iff.1 hf).1
  have hj : j < 6 := (List.getElem?_eq_some_iff.1 hv).1
  rw [World.ownsRow.cellAt h _ (by omega), fmR_get fs i f hf j hj]
  exact hv
def AgF (F : Nat -> Prop) (w w' : World) : Prop := w.heap.size ≤ w'.heap.size /\ ∀ k, F k -> w'.heap[k]? = w.heap[k]?
theorem AgF.refl (F : Nat -> Prop) (w : World) : AgF F w w := ⟨Nat.le_refl _, fun _ _ => rfl⟩
theorem AgF.cell {F : Nat -> Prop} (h : AgF F w w') {b i : Nat} {v : Value} (hb : F b) (hc : w.cell? ⟨b, i, none⟩ = some v) : w'.cell? ⟨b, i, none⟩ = some v := (World.cell?_of_block (a := ⟨b, i, none⟩) (h.2 b hb)).trans hc
theorem AgF.obj {F : Nat -> Prop} (h : AgF F w w') {b : Nat} {o : Obj} (hb : F b) (hc : w.heap[b]? = some o) : w'.heap[b]? = some o := (h.2 b hb).trans hc
theorem AgF.own {F : Nat -> Prop} (h : AgF F w w') {t s n : Nat} {v : Value} {l : List Value} (hb : ∀ k, v.ownBlock = some k -> F k) (ho : w.ownsRow B t s v n l) : w'.ownsRow B t s v n l := by
 refine ⟨ho.1, ?_⟩
 rcases ho.2 with h1 | ⟨g, cap, cur, hv, hg, hh, hr⟩
 ·exact .inl h1
 ·subst hv
  exact .inr ⟨g, cap, cur, rfl, hg, h.obj (hb g rfl) hh, hr⟩
theorem AgF.bn {F : Nat -> Prop} (h : AgF F w w') {y : Bn} (hb : F y.k) (hy : y.Ok w B) : y.Ok w' B := by
 obtain ⟨C, h1, h2⟩ := hy.blk
 exact ⟨⟨C, h.obj hb h1, h2⟩, hy.by_, hy.cap, hy.lo, hy.pos, hy.le⟩
theorem AgF.ofKept {F P : Nat -> Prop} (h : Kept w w' P) (hp : ∀ k, F k -> k < w.heap.size /\ ¬ P k) : AgF F w w' := ⟨h.size, fun k hk => h.block k (hp k hk).1 (hp k hk).2⟩
theorem AgF.trans {F : Nat -> Prop} {w2 : World} (h : AgF F w w') (k : AgF F w' w2) : AgF F w w2 := ⟨Nat.le_trans h.1 k.1, fun j hj => (k.2 j hj).trans (h.2 j hj)⟩
end
section
variable {w w' W : World} {B T : Nat} {M M' : Mx} {R R' : Rx} {r r' : Rn} {E : En}
def akv (x0 x1 x2 x3 x4 : Int) (b : Bool) : Value := .tuple #[.agg #[.int .i64 x0, .int .i64 x1, .int .i64 x2, .int .i64 x3, .int .i64 x4], .bool b]
theorem Mx.Ok.ne_t (h : M.Ok w B) {eb t : Nat} {cs : Array Value} (hE : w.heap[eb]? = some (.cells cs t (0, 0))) (h0 : t ≠ 103) (h4 : t ≠ 92) (h1 : t ≠ 127) (h2 : t ≠ 5) (h3 : t ≠ 100) : ¬ M.own eb := by
 rintro (rfl | rfl | ⟨q, e, he, hj⟩)
 ·exact blk_ne h.blk hE (fun e => h0 e.symm) rfl
 ·obtain ⟨C, hC, _⟩ := h.row; exact blk_ne hC hE (fun e => h4 e.symm) rfl
 ·exact (h.el q e he).ne_t hE h1 h2 h3 hj
theorem Rx.Ok.ne_t (h : R.Ok w B T) {eb t : Nat} {cs : Array Value} (hE : w.heap[eb]? = some (.cells cs t (0, 0))) (h0 : t ≠ 110) (h4 : t ≠ 107) (h1 : t ≠ 40) (h2 : t ≠ 5) (h3 : t ≠ 122) : ¬ R.own eb := by
 rintro (rfl | rfl | ⟨q, hq, hj⟩)
 ·exact blk_ne h.blk hE (fun e => h0 e.symm) rfl
 ·obtain ⟨C, hC, _⟩ := h.row; exact blk_ne hC hE (fun e => h4 e.symm) rfl
 ·rcases hj with hj | hj | ⟨y, hy, rfl⟩ | ⟨x, hx, rfl⟩
  ·obtain ⟨C, hC⟩ := h.ty_p hq hj; exact blk_ne hC hE (fun e => h1 e.symm) rfl
  ·obtain ⟨C, hC⟩ := h.ty_e hq hj; exact blk_ne hC hE (fun e => h3 e.symm) rfl
  ·exact ((h.el q hq).bp y hy).ne hE h2 rfl
  ·exact ((h.el q hq).be x hx).ne hE h2 rfl
theorem put_out {k j : Nat} {E' : En} (h : M.Ok w B) (he : M.es k = some E) (hs : Mstep w w' M (M.put k E') B) {t : Nat} {C : Array Value} (hj : w'.heap[j]? = some (.cells C t (0, 0))) (ht : t = 5) (hE : ¬ E'.own j) (ho : E.own j ∨ w.heap.size ≤ j) : ¬ (M.put k E').own j := by
 subst ht
 rintro (rfl | rfl | ⟨q, e, hq, hj2⟩)
 ·exact blk_ne hs.ok.blk hj (by decide) rfl
 ·obtain ⟨D, hD, _⟩ := hs.ok.row; exact blk_ne hD hj (by decide) rfl
 ·have hq' : upd M.es k (some E') q = some e := hq
  by_cases c : q = k
  ·rw [c, upd_same] at hq'; cases hq'; exact hE hj2
  ·rw [upd_ne _ _ c] at hq'
   rcases ho with ho | ho
   ·exact h.ap q k e E c hq' he j hj2 ho
   ·have := (h.el q e hq').lt hj2; omega
structure TkP (w w2 : World) (B T : Nat) (M : Mx) (R : Rx) (bl : List Bd) (L v8 : Value) : Prop where
 out : ∃ (M' : Mx) (R' : Rx) (o : List Bn), DStep w w2 B (T + 1) M R M' R' /\ (∀ b ∈ bl, Body w2 B b /\ ¬ M'.own b.k /\ ¬ R'.own b.k /\ (M.own b.k ∨ w.heap.size ≤ b.k)) /\ (bl.map Bd.k).Nodup /\ w2.ownsRow w.heap.size 40 1 L bl.length (bl.map Bd.v) /\ (∀ j, L.ownBlock = some j -> ¬ M'.own j /\ ¬ R'.own j) /\ w2.ownsRow w.heap.size 40 1 v8 bl.length (o.map Bn.v) /\ (∀ z ∈ o, z.Ok w2 B) /\ o.map Bn.bs = bl.map Bd.bs /\ ∀ z ∈ o, ∀ b ∈ bl, z.k ≠ b.k
theorem nil_row {t s b : Nat} : w.ownsRow b t s (.slice none 0 0) 0 [] := ⟨by simp, .inl ⟨rfl, rfl⟩⟩
theorem tkp_no (h : DStep w w' B (T + 1) M R M' R') : TkP w w' B T M R [] (.slice none 0 0) (.slice none 0 0) :=
 ⟨M', R', [], h, fun b hb => (by cases hb), List.nodup_nil, nil_row, fun j hj => (by cases hj), nil_row, fun z hz => (by cases hz), rfl, fun z hz => (by cases hz)⟩
def fmv (t : Tg) (u : Int) (a : Option Addr) (n c : Nat) : Value := .agg #[.int .i64 t.e, .int .i64 t.l, .int .i64 t.i, .int .i64 t.c, .int .i64 u, .slice a n c]
def RTakeNew : Prop := ∀ (w : World) (B T : Nat) (R : Rx) (r : Rn) (q : Int) (t : Tg) (u : Nat) (ao : Option Addr) (n c : Nat) (bs : List Int), R.Ok w B T -> R.at q = some r -> Rd w ao n c bs -> 1 ≤ u -> u ≤ 4611686018427387904 -> inR 1 300 (n : Int) = true -> t = R.tag -> r.gt < u -> u ≤ r.gt + R.win -> eaI r.ea u = none -> B ≤ w.heap.size -> T + 1 ≤ 500 -> (0 < n -> In ao fun b => b ≠ R.g) -> Calls Try.prog 40 #[.pointer (some ⟨R.b, 0, none⟩), .int .i64 q, fmv t (u : Int) ao n c] w fun e w' => ∃ k : Nat, q = (k : Int) /\ k < R.n /\ TkF w w' R k r B T u bs e
end
section
variable {w w' W : World} {B T : Nat} {M M' : Mx} {R R' : Rx} {r r' : Rn} {E : En}
theorem new_no {n self win room : Int} (hn : -9223372036854775808 ≤ n - 1) (h : nwB n self win room = false) : Calls Try.prog 23 #[.int .i64 n, .int .i64 self, .int .i64 win, .int .i64 room] w fun e w' => e = .returned (.tuple #[.pointer none, .int .i64 1]) /\ w = w' := by
 cases e1 : inR 1 16 n with
 | false =>
  clear h
  go_enter Try.func23, Try.ntmps23
  go_wp2_with (first | (go_at_call 66; refine (within_any _ _ _).mono ?_; rintro e w' ⟨rfl, rfl⟩) | fail)
  exact bodyPost_ret (v := .tuple #[.pointer none, .int .i64 1]) (by simp [results, Try.results23, go_sem]) rfl ⟨rfl, rfl⟩
 | true =>
  have hn2 : 1 ≤ n /\ n ≤ 16 := by simp [inR] at e1; omega
  obtain ⟨n1, n2⟩ := hn2
  cases e2 : inR 0 (n - 1) self with
  | false =>
   clear h
   go_enter Try.func23, Try.ntmps23
   go_wp2_with (first | (go_at_call 66; refine (within_any _ _ _).mono ?_; rintro e w' ⟨rfl, rfl⟩) | fail)
   exact bodyPost_ret (v := .tuple #[.pointer none, .int .i64 1]) (by simp [results, Try.results23, go_sem]) rfl ⟨rfl, rfl⟩
  | true =>
   cases e3 : inR 1 20000 room with
   | false =>
    clear h
    go_enter Try.func23, Try.ntmps23
    go_wp2_with (first | (go_at_call 66; refine (within_any _ _ _).mono ?_; rintro e w' ⟨rfl, rfl⟩) | fail)
    exact bodyPost_ret (v := .tuple #[.pointer none, .int .i64 1]) (by simp [results, Try.results23, go_sem]) rfl ⟨rfl, rfl⟩
   | true =>
    have e4 : inR 1 room win = false := by simpa [nwB, e1, e2, e3] using h
    clear h
    go_enter Try.func23, Try.ntmps23
    go_wp2_with (first | (go_at_call 66; refine (within_any _ _ _).mono ?_; rintro e w' ⟨rfl, rfl⟩) | fail)
    exact bodyPost_ret (v := .tuple #[.pointer none, .int .i64 1]) (by simp [results, Try.results23, go_sem]) rfl ⟨rfl, rfl⟩
theorem takeP_full (F : Nat -> Option (List Int)) : ∀ (k p : Nat) (o : List (List Int)), o.length = k -> (∀ i, i < k -> F (p + 1 + i) = o[i]?) -> takeP F p k = o
 | 0, p, o, hl, _ => by
   have : o = [] := List.eq_nil_of_length_eq_zero hl
   subst this
   rfl
 | k + 1, p, o, hl, hF => by
   cases o with
   | nil => cases hl
   | cons c o =>
    have h0 := hF 0 (by omega)
    simp at h0
    simp only [takeP, h0]
    congr 1
    simp at hl
    refine takeP_full F k (p + 1) o hl fun i hi => ?_
    have := hF (i + 1) (by omega)
    rw [show p + 1 + 1 + i = p + 1 + (i + 1) by omega, this]
    simp
theorem takeN_mem {f : Nat -> Option Bd} : ∀ {m p : Nat} {b : Bd}, b ∈ takeN f p m -> ∃ n, f n = some b
 | 0, p, b, h => by simp [takeN] at h
 | m + 1, p, b, h => by
   unfold takeN at h
   cases e : f (p + 1) with
   | none => rw [e] at h; cases h
   | some c =>
    rw [e] at h
    rcases List.mem_cons.1 h with rfl | h
    ·exact ⟨_, e⟩
    ·exact takeN_mem h
theorem nodup_rng {ks : Nat -> Nat} : ∀ n, (∀ a b, a < n -> b < n -> ks a = ks b -> a = b) -> ((List.range n).map ks).Nodup
 | 0, _ => by simp
 | n + 1, h => by
   rw [List.range_succ, List.map_append, List.nodup_append]
   refine ⟨nodup_rng n fun a b ha hb => h a b (by omega) (by omega), by simp, fun x hx y hy e => ?_⟩
   simp only [List.mem_map, List.mem_range] at hx
   simp at hy
   obtain ⟨a, ha, rfl⟩ := hx
   subst hy
   have := h a n (by omega) (by omega) e
   omega
def frSp (t : Tg) (an : Nat) : List (List Int) -> List (Tg × Int × List Int)
 | [] => []
 | b :: l => (t, ((an + 1 : Nat) : Int), b) :: frSp t (an + 1) l
def fmS (f : Fm) : Tg × Int × List Int := (f.t, f.s, f.y.bs)
theorem frSp_len (t : Tg) : ∀ (l : List (List Int)) (an : Nat), (frSp t an l).length = l.length
 | [], _ => rfl
 | b :: l, an => by simp [frSp, frSp_len t l]
structure FrPo (D w' : World) (sp : List (Tg × Int × List Int)) (e : Ending) : Prop where
 out : ∃ (fs : List Fm) (la : Option Addr) (c : Nat), e = .returned (.slice la fs.length c) /\ fs.map fmS = sp /\ w'.ownsRow D.heap.size 55 6 (.slice la fs.length c) fs.length (fmR fs) /\ (∀ f ∈ fs, Body w' D.heap.size ⟨f.y.k, f.y.bs⟩ /\ f.y.c = f.y.bs.length) /\ (fs.map fun f => f.y.k).Nodup /\ Below D.heap.size D w'
structure FrQo (D w' : World) (sp : List (Tg × Int × List Int)) (e : Ending) : Prop where
 out : ∃ (fs : List Fm) (la : Option Addr) (c : Nat), e = .returned (.slice la fs.length c) /\ fs.map fmS = sp /\ w'.ownsRow D.heap.size 55 6 (.slice la fs.length c) fs.length (fmR fs) /\ (∀ f ∈ fs, f.y.Ok w' D.heap.size) /\ Below D.heap.size D w'
def mkF (t : Tg) : Nat -> List Bn -> List Fm
 | _, [] => []
 | op, y :: l => ⟨t, ((op + 1 : Nat) : Int), y⟩ :: mkF t (op + 1) l
theorem mkF_len (t : Tg) : ∀ (l : List Bn) (op : Nat), (mkF t op l).length = l.length
 | [], _ => rfl
 | y :: l, op => by simp [mkF, mkF_len t l]
theorem mkF_get (t : Tg) : ∀ (l : List Bn) (op i : Nat), (mkF t op l)[i]? = (l[i]?).map fun y => ⟨t, ((op + i + 1 : Nat) : Int), y⟩
 | [], _, _ => by simp [mkF]
 | y :: l, op, 0 => by simp [mkF]
 | y :: l, op, i + 1 => by
   simp only [mkF, List.getElem?_cons_succ, mkF_get t l]
   rw [show op + 1 + i + 1 = op + (i + 1) + 1 by omega]
theorem mkF_sp (t : Tg) : ∀ (l : List Bn) (op : Nat), (mkF t op l).map fmS = frSp t op (l.map Bn.bs)
 | [], _ => rfl
 | y :: l, op => by simp only [mkF, List.map_cons, frSp, mkF_sp t l]; rfl
theorem mkF_fro (t : Tg) : ∀ (l : List Bn) (op : Nat), fmR (mkF t op l) = fro t op l
 | [], _ => rfl
 | y :: l, op => by
   simp only [mkF, fmR, List.flatMap_cons, fro]
   rw [<- mkF_fro t l]
   rfl
theorem mkF_y (t : Tg) : ∀ (l : List Bn) (op : Nat), (mkF t op l).map (fun f => f.y) = l
 | [], _ => rfl
 | y :: l, op => by simp only [mkF, List.map_cons, mkF_y t l]
theorem mkF_mem {t : Tg} {l : List Bn} {op : Nat} {f : Fm} (h : f ∈ mkF t op l) : f.y ∈ l := by
 have : f.y ∈ (mkF t op l).map fun f => f.y := List.mem_map.2 ⟨f, h, rfl⟩
 rwa [mkF_y] at this
theorem frames_pair (h : Duo w B T M R) (q : Int) : ∃ sp, sp.length ≤ 1000 /\ ∀ D, Below w.heap.size w D -> (Calls Try.prog 20 #[.pointer (some ⟨M.b, 0, none⟩), .int .i64 q] D fun e w' => FrPo D w' sp e) /\ (Calls Try.prog 21 #[.pointer (some ⟨R.b, 0, none⟩), .int .i64 q] D fun e w' => FrQo D w' sp e) := by
 cases hq : M.at q with
 | none =>
  have hr := h.s.at_none hq
  refine ⟨[], by simp, fun D hb => ⟨(frames_no (h.m.still hb) hq).mono fun e w' hx => ⟨[], none, 0, hx.1, rfl, nil_row, fun f hf => (by cases hf), List.nodup_nil, by rw [hx.2]; exact Below.refl _ _⟩, (rframes_no (h.r.still hb) hr).mono fun e w' hx => ⟨[], none, 0, hx.1, rfl, nil_row, fun f hf => (by cases hf), by rw [hx.2]; exact Below.refl _ _⟩⟩⟩
 | some E =>
  obtain ⟨k, rfl, hk, he, hr, hp, hs⟩ := h.s.at_some hq
  have hkR : k < R.n := by rw [<- h.s.n]; exact hk
  have e1 : E.sent = (R.es k).ps.length := hs.sent
  have e2 : E.o.p = (R.es k).an := hs.op
  have e3 := h.s.win
  have e4 : (R.es k).an ≤ (R.es k).ps.length := hs.s1
  obtain ⟨r, hrr⟩ : ∃ r, R.es k = r := ⟨_, rfl⟩
  rw [hrr] at e1 e2 e4 hr hs
  obtain ⟨m, hm⟩ : ∃ m, R.last r - r.an = m := ⟨_, rfl⟩
  have hm' : m = min M.win (r.ps.length - r.an) := by rw [<- hm]; unfold Rx.last; omega
  have hT1 : r.ps.length ≤ T := by rw [<- hrr]; exact (h.r.el k hkR).s2
  have hT2 := h.r.t1
  let o := ((r.ps.drop r.an).take m).map Bn.bs
  have hol : o.length = m := by simp [o]; omega
  have hob : ∀ i, i < m -> E.pu.ob (E.o.p + 1 + i) = o[i]? := fun i hi => by
   rw [hs.ob, e2, if_pos (by omega), show r.an + 1 + i - 1 = r.an + i by omega]
   simp only [o, List.getElem?_map, List.getElem?_take, List.getElem?_drop]
   rw [if_pos hi]
  have htp : takeP E.pu.ob E.o.p M.win = o := by
   by_cases c : m = M.win
   ·rw [<- c]
    exact takeP_full _ _ _ _ hol hob
   ·refine takeP_run _ _ m _ _ hol hob ?_ (by omega)
    rw [hs.ob, e2, if_neg (by omega)]
  refine ⟨frSp M.tag E.o.p o, by rw [frSp_len, hol]; omega, fun D hb => ⟨(frames_yes (h.m.still hb) hq).mono fun e w' hx => ?_, (rframes_yes (h.r.still hb) hr).mono fun e w' hx => ?_⟩⟩
  ·obtain ⟨fb, n, bl, ks, he1, hbl, hbn, hfb, hF⟩ := hx.out
   have hblo : bl.map Bd.bs = o := by rw [hbl, takeN_P]; exact htp
   have hbm : bl.length = m := by have := congrArg List.length hblo; rw [List.length_map, hol] at this; exact this
   obtain ⟨ys, hysd⟩ : ∃ ys : List Bn, ys = (List.range n).map fun i => ⟨ks i, (gB bl i).bs.length, (gB bl i).bs⟩ := ⟨_, rfl⟩
   have hyl : ys.length = n := by simp [hysd]
   have hyg : ∀ i, i < n -> ys[i]? = some ⟨ks i, (gB bl i).bs.length, (gB bl i).bs⟩ := fun i hi => by simp [hysd, hi]
   have hys : ys.map Bn.bs = o := by
    rw [<- hblo]
    apply List.ext_getElem?
    intro i
    rw [List.getElem?_map, List.getElem?_map]
    by_cases hi : i < n
    ·rw [hyg i hi, gB_at (by omega)]; rfl
    ·rw [List.getElem?_eq_none (by omega), List.getElem?_eq_none (by omega)]; rfl
   have hlen : (mkF M.tag E.o.p ys).length = n := by rw [mkF_len, hyl]
   have hbd : ∀ i, i < n -> Body w' D.heap.size ⟨ks i, (gB bl i).bs⟩ := fun i hi => by
    have h1 := hF.bk i hi
    obtain ⟨kq, hkq1, hkq2, hkq3⟩ := at_es hq
    have hbo := ((h.m.still hb).el kq E hkq3).oo
    have hmem : gB bl i ∈ takeN E.o.f E.o.p M.win := by rw [<- hbl]; exact List.mem_of_getElem? (gB_at (by omega))
    obtain ⟨nn, hnn⟩ := takeN_mem hmem
    have hbod := hbo.el nn _ hnn
    exact ⟨h1.1, hbod.by_, hbod.pos, hbod.le, h1.2⟩
   refine ⟨mkF M.tag E.o.p ys, some ⟨fb, 0, none⟩, n, by rw [hlen]; exact he1, by rw [mkF_sp, hys], ?_, fun f hf => ?_, ?_, hF.bel⟩
   ·rw [hlen]
    obtain ⟨C, h1, h2, h3⟩ := hF.row
    refine ⟨by rw [fmR_len, hlen], .inr ⟨fb, n, C, rfl, hfb, h1, Nat.le_refl _, by unfold maxLen; omega, h2, ?_⟩⟩
    apply List.ext_getElem?
    intro j
    by_cases hj : j < n * 6
    ·rw [List.getElem?_take, if_pos hj, Array.getElem?_toList, h3 j hj]
     have hi : j / 6 < n := by omega
     have hg : (mkF M.tag E.o.p ys)[j / 6]? = some ⟨M.tag, ((E.o.p + j / 6 + 1 : Nat) : Int), ⟨ks (j / 6), (gB bl (j / 6)).bs.length, (gB bl (j / 6)).bs⟩⟩ := by rw [mkF_get, hyg _ hi]; rfl
     have := fmR_get _ (j / 6) _ hg (j % 6) (by omega)
     rw [show j / 6 * 6 + j % 6 = j by omega] at this
     rw [this]
     unfold frf fri
     rw [if_pos hi]
     have h6 : j % 6 < 6 := Nat.mod_lt _ (by omega)
     simp only [List.getD, frv, Fm.cs, Bn.v, slv]
     rw [List.getElem?_eq_getElem (by simpa using h6)]
     rfl
    ·rw [List.getElem?_eq_none (by simp; omega), List.getElem?_eq_none (by rw [fmR_len, hlen]; omega)]
   ·have := mkF_mem hf
    rw [hysd] at this
    simp only [List.mem_map, List.mem_range] at this
    obtain ⟨i, hi, rfl'⟩ := this
    rw [<- rfl']
    exact ⟨hbd i hi, rfl⟩
   ·have : ((mkF M.tag E.o.p ys).map fun f => f.y.k) = (List.range n).map ks := by
     have h1 : ((mkF M.tag E.o.p ys).map fun f => f.y.k) = ((mkF M.tag E.o.p ys).map fun f => f.y).map Bn.k := by rw [List.map_map]; rfl
     rw [h1, mkF_y, hysd]
     simp
    rw [this]
    exact nodup_rng n fun a b ha hb2 hab => hF.inj a b ha hb2 hab
  ·obtain ⟨v, l, he1, hF⟩ := hx.out
   rw [hm] at hF
   obtain ⟨a, c, hv⟩ := row_shape' hF.row
   subst hv
   have hlen : (mkF R.tag r.an l).length = m := by rw [mkF_len, hF.len]
   refine ⟨mkF R.tag r.an l, a, c, by rw [hlen]; exact he1, ?_, by rw [mkF_fro, hlen]; exact hF.row, fun f hf => hF.ok _ (mkF_mem hf), hF.bel⟩
   rw [mkF_sp, hF.bs, h.s.tag, e2]
end
section
variable {w w' W : World} {B : Nat}
theorem FRd.cells {la : Option Addr} {n lb i : Nat} {fs : List Fm} {f : Fm} (h : FRd w la n fs) (hl : la = some ⟨lb, 0, none⟩) (hf : fs[i]? = some f) (j : Nat) {v : Value} (hv : f.cs[j]? = some v) : w.cell? ⟨lb, i * 6 + j, none⟩ = some v := by
 have hi : i < fs.length := (List.getElem?_eq_some_iff.1 hf).1
 obtain ⟨lb', h1, h2⟩ := h.at_ (by rw [<- h.len]; omega)
 rw [hl] at h1
 simp only [Option.some.injEq, Addr.mk.injEq] at h1
 obtain ⟨rfl, _⟩ := h1
 exact h2 i f hf j v hv
theorem FRd.addr {la : Option Addr} {n : Nat} {fs : List Fm} (h : FRd w la n fs) (hn : 0 < n) : ∃ lb, la = some ⟨lb, 0, none⟩ := by obtain ⟨lb, h1, _⟩ := h.at_ hn; exact ⟨lb, h1⟩
structure FEq (w : World) (B : Nat) (fs gs : List Fm) : Prop where
 of : ∀ (i : Nat) (f : Fm), fs[i]? = some f -> f.y.Ok w B
 og : ∀ (i : Nat) (g : Fm), gs[i]? = some g -> g.y.Ok w B
 eq : ∀ (i : Nat) (f g : Fm), fs[i]? = some f -> gs[i]? = some g -> g.t = f.t /\ g.s = f.s /\ g.y.bs = f.y.bs
theorem shows_fresh {la va ga : Option Addr} {n lc vc gn gc : Nat} {mk : Int} {fs gs : List Fm} (h1 : FRd w la n fs) (h2 : FRd w va n gs) (he : FEq w B fs gs) (hn : n ≤ 1000000) : Calls Try.prog 30 #[.agg #[.slice la n lc, .slice ga gn gc, .slice va n vc, .int .i64 mk, .bool false]] w fun e w' => e = .returned (.bool true) /\ Below w.heap.size w w' := by
 generalize hW : w.alloc (.cells #[.slice la n lc, .slice ga gn gc, .slice va n vc, .int .i64 mk, .bool false] 48) = W
 have hbW := bW0 hW
 have hk1 : W.heap[w.heap.size]? = some (.cells #[.slice la n lc, .slice ga gn gc, .slice va n vc, .int .i64 mk, .bool false] 48 (0, 0)) := by rw [<- hW]; exact heap_alloc_new _ _
 have c0 : W.cell? ⟨w.heap.size, 0, none⟩ = some (.slice la n lc) := bC hk1 0
 have c2 : W.cell? ⟨w.heap.size, 2, none⟩ = some (.slice va n vc) := bC hk1 2
 have c4 : W.cell? ⟨w.heap.size, 4, none⟩ = some (.bool false) := bC hk1 4
 have HC : Hid (W.cell? ⟨w.heap.size, 0, none⟩ = some (.slice la n lc) /\ W.cell? ⟨w.heap.size, 2, none⟩ = some (.slice va n vc) /\ W.cell? ⟨w.heap.size, 4, none⟩ = some (.bool false)) := (show _ /\ _ from ⟨c0, c2, c4⟩)
 have HB : Hid (Below w.heap.size w W) := hbW
 have H1 : Hid (FRd w la n fs) := h1
 have H2 : Hid (FRd w va n gs) := h2
 have He : Hid (FEq w B fs gs) := he
 clear h1 h2 he hk1 hbW c2 c4
 go_enter Try.func30, Try.ntmps30
 go_wp2
 go_loopw [4] (fun v4 wr => ∃ i : Nat, i ≤ n /\ v4 = .int .i64 (i : Int) /\ Hid (Below w.heap.size w wr /\ Below W.heap.size W wr)) (fun v4 _ => n - (intOf v4).toNat)
 case atStart => exact ⟨0, by omega, rfl, (show _ /\ _ from ⟨HB.out, Below.refl _ _⟩)⟩
 case round =>
  obtain ⟨i, hi, rfl, hs⟩ := hrel
  have d0 := bA hs.out.2 HC.out.1
  have d2 := bA hs.out.2 HC.out.2.1
  have d4 := bA hs.out.2 HC.out.2.2
  by_cases hlt : i < n
  ·have i1 : (0 : Int) ≤ (i : Int) := Int.natCast_nonneg _
   have i2 : (i : Int) < (n : Int) := by omega
   obtain ⟨f, hf⟩ : ∃ f, fs[i]? = some f := ⟨_, List.getElem?_eq_getElem (by rw [H1.out.len]; exact hlt)⟩
   obtain ⟨g, hg⟩ : ∃ g, gs[i]? = some g := ⟨_, List.getElem?_eq_getElem (by rw [H2.out.len]; exact hlt)⟩
   obtain ⟨lb, hlb⟩ := H1.out.addr (by omega)
   obtain ⟨vb, hvb⟩ := H2.out.addr (by omega)
   have hF := H1.out.still hs.out.1
   have hG := H2.out.still hs.out.1
   obtain ⟨et, es, eb⟩ := He.out.eq i f g hf hg
   have l0 := hF.cells hlb hf 0 (v := .int .i64 f.t.e) rfl
   have l1 := hF.cells hlb hf 1 (v := .int .i64 f.t.l) rfl
   have l2 := hF.cells hlb hf 2 (v := .int .i64 f.t.i) rfl
   have l3 := hF.cells hlb hf 3 (v := .int .i64 f.t.c) rfl
   have l4 := hF.cells hlb hf 4 (v := .int .i64 f.s) rfl
   have l5 := hF.cells hlb hf 5 (v := .slice (some ⟨f.y.k, 0, none⟩) f.y.bs.length f.y.c) rfl
   have v0 : wr.cell? ⟨vb, i * 6 + 0, none⟩ = some (.int .i64 f.t.e) := hG.cells hvb hg 0 (v := .int .i64 f.t.e) (by unfold Fm.cs Bn.v; rw [et, es, eb]; rfl)
   have v1 : wr.cell? ⟨vb, i * 6 + 1, none⟩ = some (.int .i64 f.t.l) := hG.cells hvb hg 1 (v := .int .i64 f.t.l) (by unfold Fm.cs Bn.v; rw [et, es, eb]; rfl)
   have v2 : wr.cell? ⟨vb, i * 6 + 2, none⟩ = some (.int .i64 f.t.i) := hG.cells hvb hg 2 (v := .int .i64 f.t.i) (by unfold Fm.cs Bn.v; rw [et, es, eb]; rfl)
   have v3 : wr.cell? ⟨vb, i * 6 + 3, none⟩ = some (.int .i64 f.t.c) := hG.cells hvb hg 3 (v := .int .i64 f.t.c) (by unfold Fm.cs Bn.v; rw [et, es, eb]; rfl)
   have v4 : wr.cell? ⟨vb, i * 6 + 4, none⟩ = some (.int .i64 f.s) := hG.cells hvb hg 4 (v := .int .i64 f.s) (by unfold Fm.cs Bn.v; rw [et, es, eb]; rfl)
   have v5 : wr.cell? ⟨vb, i * 6 + 5, none⟩ = some (.slice (some ⟨g.y.k, 0, none⟩) f.y.bs.length g.y.c) := hG.cells hvb hg 5 (v := .slice (some ⟨g.y.k, 0, none⟩) f.y.bs.length g.y.c) (by unfold Fm.cs Bn.v; rw [et, es, eb]; rfl)
   rw [Nat.add_zero] at l0 v0
   rw [hlb] at d0
   rw [hvb] at d2
   have HSf : Hid (∀ D, Below wr.heap.size wr D -> Calls Try.prog 22 #[.agg #[.int .i64 f.t.e, .int .i64 f.t.l, .int .i64 f.t.i, .int .i64 f.t.c, .int .i64 f.s, .slice (some ⟨f.y.k, 0, none⟩) f.y.bs.length f.y.c], .agg #[.int .i64 f.t.e, .int .i64 f.t.l, .int .i64 f.t.i, .int .i64 f.t.c, .int .i64 f.s, .slice (some ⟨g.y.k, 0, none⟩) f.y.bs.length g.y.c]] D fun e w' => e = .returned (.bool true) /\ Below D.heap.size D w') := fun D hb => (show Calls _ _ _ _ _ from by
    have r1 := ((He.out.of i f hf).still (bstep hs.out.1 hb)).rd
    have r2 := ((He.out.og i g hg).still (bstep hs.out.1 hb)).rd
    rw [eb] at r2
    exact sameF_any r1 r2 (by have := (He.out.of i f hf).le; omega))
   have HS : Hid (Below w.heap.size w wr /\ Below W.heap.size W wr) := hs
   clear hs hlt hf hg hlb hvb hF hG et es eb
   go_wp2
   refine wp_region_held_drew (S := (fun w' => w'.cell? ⟨w.heap.size, 0, none⟩ = some (.slice (some ⟨lb, 0, none⟩) n lc) /\ w'.cell? ⟨w.heap.size, 2, none⟩ = some (.slice (some ⟨vb, 0, none⟩) n vc) /\ w'.cell? ⟨w.heap.size, 4, none⟩ = some (.bool false) /\ w'.cell? ⟨lb, i * 6, none⟩ = some (.int .i64 f.t.e) /\ w'.cell? ⟨lb, i * 6 + 1, none⟩ = some (.int .i64 f.t.l) /\ w'.cell? ⟨lb, i * 6 + 2, none⟩ = some (.int .i64 f.t.i) /\ w'.cell? ⟨lb, i * 6 + 3, none⟩ = some (.int .i64 f.t.c) /\ w'.cell? ⟨lb, i * 6 + 4, none⟩ = some (.int .i64 f.s) /\ w'.cell? ⟨lb, i * 6 + 5, none⟩ = some (.slice (some ⟨f.y.k, 0, none⟩) f.y.bs.length f.y.c) /\ w'.cell? ⟨vb, i * 6, none⟩ = some (.int .i64 f.t.e) /\ w'.cell? ⟨vb, i * 6 + 1, none⟩ = some (.int .i64 f.t.l) /\ w'.cell? ⟨vb, i * 6 + 2, none⟩ = some (.int .i64 f.t.i) /\ w'.cell? ⟨vb, i * 6 + 3, none⟩ = some (.int .i64 f.t.c) /\ w'.cell? ⟨vb, i * 6 + 4, none⟩ = some (.int .i64 f.s) /\ w'.cell? ⟨vb, i * 6 + 5, none⟩ = some (.slice (some ⟨g.y.k, 0, none⟩) f.y.bs.length g.y.c))) (by kernel_rfl) ⟨(dW0 d0), (dW0 d2), (dW0 d4), (dW0 l0), (dW0 l1), (dW0 l2), (dW0 l3), (dW0 l4), (dW0 l5), (dW0 v0), (dW0 v1), (dW0 v2), (dW0 v3), (dW0 v4), (dW0 v5)⟩ (fun hH => ?_)
   simp only [Act.put, lA, lC, lN, zA]
   refine tG 0 14 (.pointer (some ⟨w.heap.size, 4, none⟩)) rfl hH ?_
   simp only [aP, sA, sZ, sC]
   refine tL 1 15 (.bool false) rfl hH ?_
   simp only [aP, sA, sZ, sC]
   refine tG 2 16 (.bool true) rfl hH ?_
   simp only [aP, sA, sZ, sC]
   refine tG 3 17 (.bool true) rfl hH ?_
   simp only [aP, sA, sZ, sC]
   refine tK 4 18 (.pointer (some ⟨w.heap.size, 0, none⟩)) rfl hH ?_
   simp only [aP, sA, sZ, sC]
   refine tM 5 19 (.slice (some ⟨lb, 0, none⟩) n lc) rfl hH ?_
   simp only [aP, sA, sZ, sC]
   refine tK 6 20 (.int .i64 (i : Int)) rfl hH ?_
   simp only [aP, sA, sZ, sC]
   refine tK 7 21 (.pointer (some ⟨lb, i * 6, none⟩)) rfl hH ?_
   simp only [aP, sA, sZ, sC]
   refine tM 8 22 (.agg #[.int .i64 f.t.e, .int .i64 f.t.l, .int .i64 f.t.i, .int .i64 f.t.c, .int .i64 f.s, .slice (some ⟨f.y.k, 0, none⟩) f.y.bs.length f.y.c]) rfl hH ?_
   simp only [aP, sA, sZ, sC]
   refine tK 9 23 (.pointer (some ⟨w.heap.size, 2, none⟩)) rfl hH ?_
   simp only [aP, sA, sZ, sC]
   refine tM 10 24 (.slice (some ⟨vb, 0, none⟩) n vc) rfl hH ?_
   simp only [aP, sA, sZ, sC]
   refine tK 11 25 (.int .i64 (i : Int)) rfl hH ?_
   simp only [aP, sA, sZ, sC]
   refine tK 12 26 (.pointer (some ⟨vb, i * 6, none⟩)) rfl hH ?_
   simp only [aP, sA, sZ, sC]
   refine tM 13 27 (.agg #[.int .i64 f.t.e, .int .i64 f.t.l, .int .i64 f.t.i, .int .i64 f.t.c, .int .i64 f.s, .slice (some ⟨g.y.k, 0, none⟩) f.y.bs.length g.y.c]) rfl hH ?_
   simp only [aP, sA, sZ, sC]
   have hbD1 : Below wr.heap.size wr wr.drew := dB _
   have q0 := bA hbD1 d0
   have q1 := bA hbD1 d2
   have q2 := bA hbD1 d4
   have q3 := bA hbD1 l0
   have q4 := bA hbD1 l1
   have q5 := bA hbD1 l2
   have q6 := bA hbD1 l3
   have q7 := bA hbD1 l4
   have q8 := bA hbD1 l5
   have q9 := bA hbD1 v0
   have q10 := bA hbD1 v1
   have q11 := bA hbD1 v2
   have q12 := bA hbD1 v3
   have q13 := bA hbD1 v4
   have q14 := bA hbD1 v5
   refine rY 14 rfl fun K hK => ?_
   go_simp
   refine (HSf.out (wr.drew) hbD1).mono ?_
   rintro e w2 ⟨rfl, hb2⟩
   refine hK.out _ _ ⟨(bA hb2 q0), (bA hb2 q1), (bA hb2 q2), (bA hb2 q3), (bA hb2 q4), (bA hb2 q5), (bA hb2 q6), (bA hb2 q7), (bA hb2 q8), (bA hb2 q9), (bA hb2 q10), (bA hb2 q11), (bA hb2 q12), (bA hb2 q13), (bA hb2 q14)⟩ (fun hH => ?_)
   clear hK K
   refine tK 15 29 (.bool false) rfl hH ?_
   simp only [aP, sA, sZ, sC]
   refine tG 16 30 (.bool false) rfl hH ?_
   simp only [aP, sA, sZ, sC]
   refine tG 17 31 (.bool false) rfl hH ?_
   simp only [aP, sA, sZ, sC]
   refine tK 18 32 (.pointer (some ⟨w.heap.size, 4, none⟩)) rfl hH ?_
   simp only [aP, sA, sZ, sC]
   refine tM 19 33 (.bool false) rfl hH ?_
   simp only [aP, sA, sZ, sC]
   refine tK 20 34 (.bool false) rfl hH ?_
   simp only [aP, sA, sZ, sC]
   refine tS 21 35 rfl hH ?_
   simp only [aP, sA, sZ, sC]
   refine tS 22 36 rfl hH ?_
   simp only [aP, sA, sZ, sC]
   refine tS 23 37 rfl hH ?_
   simp only [aP, sA, sZ, sC]
   refine tS 24 38 rfl hH ?_
   simp only [aP, sA, sZ, sC]
   refine tS 25 39 rfl hH ?_
   simp only [aP, sA, sZ, sC]
   refine tS 26 40 rfl hH ?_
   simp only [aP, sA, sZ, sC]
   refine tS 27 41 rfl hH ?_
   simp only [aP, sA, sZ, sC]
   refine tS 28 42 rfl hH ?_
   simp only [aP, sA, sZ, sC]
   refine tS 29 43 rfl hH ?_
   simp only [aP, sA, sZ, sC]
   refine tS 30 44 rfl hH ?_
   simp only [aP, sA, sZ, sC]
   refine tS 31 45 rfl hH ?_
   simp only [aP, sA, sZ, sC]
   refine tS 32 46 rfl hH ?_
   simp only [aP, sA, sZ, sC]
   refine tS 33 47 rfl hH ?_
   simp only [aP, sA, sZ, sC]
   refine tS 34 48 rfl hH ?_
   simp only [aP, sA, sZ, sC]
   refine tS 35 49 rfl hH ?_
   simp only [aP, sA, sZ, sC]
   refine tS 36 50 rfl hH ?_
   simp only [aP, sA, sZ, sC]
   refine tS 37 51 rfl hH ?_
   simp only [aP, sA, sZ, sC]
   refine tS 38 52 rfl hH ?_
   simp only [aP, sA, sZ, sC]
   refine tS 39 53 rfl hH ?_
   simp only [aP, sA, sZ, sC]
   refine tS 40 54 rfl hH ?_
   simp only [aP, sA, sZ, sC]
   refine tS 41 55 rfl hH ?_
   simp only [aP, sA, sZ, sC]
   refine tS 42 56 rfl hH ?_
   simp only [aP, sA, sZ, sC]
   refine tS 43 57 rfl hH ?_
   simp only [aP, sA, sZ, sC]
   refine tS 44 58 rfl hH ?_
   simp only [aP, sA, sZ, sC]
   refine tS 45 59 rfl hH ?_
   simp only [aP, sA, sZ, sC]
   refine tS 46 60 rfl hH ?_
   simp only [aP, sA, sZ, sC]
   refine tS 47 61 rfl hH ?_
   simp only [aP, sA, sZ, sC]
   refine tS 48 62 rfl hH ?_
   simp only [aP, sA, sZ, sC]
   refine tS 49 63 rfl hH ?_
   simp only [aP, sA, sZ, sC]
   refine tS 50 64 rfl hH ?_
   simp only [aP, sA, sZ, sC]
   refine tS 51 65 rfl hH ?_
   simp only [aP, sA, sZ, sC]
   refine tS 52 66 rfl hH ?_
   simp only [aP, sA, sZ, sC]
   refine tS 53 67 rfl hH ?_
   simp only [aP, sA, sZ, sC]
   refine tS 54 68 rfl hH ?_
   simp only [aP, sA, sZ, sC]
   refine tK 55 69 (.bool false) rfl hH ?_
   simp only [aP, sA, sZ, sC]
   refine tG 56 70 (.bool false) rfl hH ?_
   simp only [aP, sA, sZ, sC]
   refine wpAnyH_done (by kernel_rfl) ?_ _
   clear hH
   have HN : Hid (Below w.heap.size w w2 /\ Below W.heap.size W w2) := (show _ /\ _ from ⟨bstep HS.out.1 (bstep hbD1 hb2), bstep HS.out.2 (bstep hbD1 hb2)⟩)
   clear HS HSf hb2 hbD1 d0 d2 d4 l0 l1 l2 l3 l4 l5 v0 v1 v2 v3 v4 v5 q0 q1 q2 q3 q4 q5 q6 q7 q8 q9 q10 q11 q12 q13 q14
   go_wp2
   exact ⟨⟨i + 1, by omega, by go_num, HN⟩, by simp [intOf]; omega⟩
  ·have i2 : ¬ (i : Int) < (n : Int) := by omega
   have HS : Hid (Below w.heap.size w wr) := hs.out.1
   clear hs
   go_wp2
   refine wp_loop_rounds 1 ?_
   rw [rounds_succ]
   go_wp2
   go_ret
   exact ⟨rfl, HS.out⟩
end
end Go.Proofs.Ythanifbimndhaaa.Ln
