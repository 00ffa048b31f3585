import Derived.Test.YtfbgoidhgkcgjaaAvf
namespace Go.Proofs.Ytfbgoidhgkcgjaa.Lo
open Go.RowKit Go.Maps
set_option linter.unusedVariables false
set_option linter.unusedSimpArgs false
section
variable {w w' W : World} {B : Nat} {P : Nat → Prop}
theorem app_I1 {ops : Array Oper} {rest : List Oper} {o : Oper} {a : Act} {Q : Exit → Act → World → Prop} (hgd : o.guard = none) (s x : Operand)
    (ho : o.op = .call { callee := .builtin .append, args := #[s, x], argTypes := #[23, 23] }) {B : Nat} {v : Value} {xs : List Int} (hs : a.eval s = v) {w0 : World} (hown : OwI w0 B v xs) (y : Int) (hw : w = w0.alloc (.cells #[.int .i64 y] 3))
    (hx : a.eval x = .slice (some ⟨w0.heap.size, 0, none⟩) 1 1) (hn : (xs.length + 1) * 8 ≤ 140737488355328) (hbase : B ≤ w0.heap.size)
    (h : ∀ v' w', Hid (OwI w' B v' (xs ++ [y])) → Hid (Mb.Kept w0 w' (fun k => v.ownBlock = some k)) → Hid (v'.ownBlock = v.ownBlock ∨ ∃ k, v'.ownBlock = some k ∧ w0.heap.size ≤ k) → wpList Try.prog ops Q rest (a.put o.dst v') w') : wpList Try.prog ops Q (o :: rest) a w := by
  subst hw
  have hb : Below w0.heap.size w0 (w0.alloc (.cells #[.int .i64 y] 3)) := bsp _ _ _
  refine app_I hgd s x ho hs (Mb.own_still hown hb) (ys := [y]) hx ⟨rfl, fun h => (by cases h), .inr ⟨w0.heap.size, 0, rfl, fun i hi => ?_⟩⟩ (by omega) (Nat.le_trans hbase hb.size) ?_
  · obtain rfl : i = 0 := by omega
    exact blk_cell (heap_new w0 #[.int .i64 y] 3) 0
  · intro v' w' h1 h2 h3
    refine h v' w' h1 ((Mb.Kept.ofBelow hb (fun k => v.ownBlock = some k)).trans h2.out) ?_
    rcases h3.out with h4 | h4
    · exact .inl h4
    · exact .inr ⟨_, h4, hb.size⟩
def pcL (xs : List Int) (j : Nat) : List Int := xs ++ (List.range j).map (fun (i : Nat) => (-7 : Int) - (i : Int))
theorem pcL_len (xs : List Int) (j : Nat) : (pcL xs j).length = xs.length + j := by simp [pcL]
theorem pcL_at {xs : List Int} {j i : Nat} (h : i < xs.length) : (pcL xs j).getD i 0 = xs.getD i 0 := by
  simp only [pcL, List.getD_eq_getElem?_getD]
  rw [List.getElem?_append_left h]
theorem pcL_hi {xs : List Int} {j i : Nat} (h : i < j) : (pcL xs j).getD (xs.length + i) 0 = (-7 : Int) - (i : Int) := by
  simp only [pcL, List.getD_eq_getElem?_getD]
  rw [List.getElem?_append_right (by omega)]
  simp [h]
theorem pcL_succ (xs : List Int) (j : Nat) : pcL xs (j + 1) = pcL xs j ++ [(-7 : Int) - (j : Int)] := by simp [pcL, List.range_succ]

def pcQ (xs : List Int) (k : Nat) : List Int := xs ++ (List.range k).flatMap (fun (i : Nat) => [-7 - (i : Int), 0, 0])
def pcB (xs : List Int) (k : Nat) : List Int := xs ++ (List.range k).map (fun (i : Nat) => 200 - (i : Int))
theorem pcQ_succ (xs : List Int) (k : Nat) : pcQ xs (k + 1) = pcQ xs k ++ [-7 - (k : Int), 0, 0] := by simp [pcQ, List.range_succ]
theorem pcQ_len (xs : List Int) (k : Nat) : (pcQ xs k).length = xs.length + k * 3 := by
  induction k with
  | zero => simp [pcQ]
  | succ k ih =>
    rw [pcQ_succ, List.length_append, ih]
    simp
    omega
theorem pcB_len (xs : List Int) (k : Nat) : (pcB xs k).length = xs.length + k := by simp [pcB]
theorem pcB_succ (xs : List Int) (k : Nat) : pcB xs (k + 1) = pcB xs k ++ [200 - (k : Int)] := by simp [pcB, List.range_succ]
theorem pcB_by {xs : List Int} (h : Ln.By xs) {k : Nat} (hk : k ≤ 64) : Ln.By (pcB xs k) := by
  refine Ln.By.append h (Ln.By.of fun x hx => ?_)
  obtain ⟨i, hi, rfl⟩ := List.mem_map.1 hx
  rw [List.mem_range] at hi
  omega
structure RdM (w : World) (a : Option Addr) (n c : Nat) (xs : List Int) : Prop where
  len : xs.length = n * 3
  nil : a = none → n = 0 ∧ c = 0
  row : n = 0 ∨ ∃ b off, a = some ⟨b, off, none⟩ ∧ ∀ i, i < n * 3 → w.cell? ⟨b, off + i, none⟩ = some (.int .i64 (xs.getD i 0))
theorem RdM.on {a : Option Addr} {n c : Nat} {xs : List Int} (h : RdM w a n c xs) (hb : Below w.heap.size w w') : RdM w' a n c xs :=
  ⟨h.len, h.nil, h.row.elim .inl (fun ⟨b, off, e, hc⟩ => .inr ⟨b, off, e, fun i hi => below_at hb (hc i hi)⟩)⟩
def OwQ (w : World) (B : Nat) (v : Value) (n : Nat) (xs : List Int) : Prop := w.ownsRow B 52 3 v n (Mb.ints xs)
theorem app_Q {ops : Array Oper} {rest : List Oper} {o : Oper} {a : Act} {Q : Exit → Act → World → Prop} (hgd : o.guard = none) (s x : Operand)
    (ho : o.op = .call { callee := .builtin .append, args := #[s, x], argTypes := #[44, 44] }) {B : Nat} {v : Value} {k : Nat} {xs : List Int} (hs : a.eval s = v) (hown : OwQ w B v k xs)
    {ao : Option Addr} {m c : Nat} {ys : List Int} (hx : a.eval x = .slice ao m c) (hr : RdM w ao m c ys) (hn : (k + m) * 24 ≤ 140737488355328) (hbase : B ≤ w.heap.size)
    (h : ∀ v' w', Hid (OwQ w' B v' (k + m) (xs ++ ys)) → Hid (Mb.Kept w w' (fun k => v.ownBlock = some k)) → wpList Try.prog ops Q rest (a.put o.dst v') w') : wpList Try.prog ops Q (o :: rest) a w := by
  obtain ⟨i0, hi, hz0, hz1, hz2⟩ := info_parts info_mb
  refine app_g hgd s x 44 ho B 52 i0 (.agg #[.int .i64 0, .int .i64 0, .int .i64 0]) 3 24 Try.underlying44 hi hz0 hz1 hz2 rfl (by omega) v k (Mb.ints xs) hs hown ao m c (Mb.ints ys) hx hr.nil (by rw [Mb.ints_len, hr.len]) ?_ (Mb.ints_one ys) (by unfold maxLen; omega) hn hbase ?_
  · intro ad he j u hu
    have hj : j < ys.length := by have := (List.getElem?_eq_some_iff.1 hu).1; rwa [Mb.ints_len] at this
    rcases hr.row with h0 | ⟨b, off, e, hc⟩
    · have := hr.len; omega
    · rw [e] at he
      cases he
      rw [Addr.add_mid, hc j (by have := hr.len; omega), ← Mb.ints_at ys j hj, hu]
  · intro v' w' h1 h2 h3
    refine h v' w' ?_ h2
    show World.ownsRow _ _ _ _ _ _ _
    have := h1.out
    simpa [Mb.ints] using this
theorem app_Q1 {ops : Array Oper} {rest : List Oper} {o : Oper} {a : Act} {Q : Exit → Act → World → Prop} (hgd : o.guard = none) (s x : Operand)
    (ho : o.op = .call { callee := .builtin .append, args := #[s, x], argTypes := #[44, 44] }) {B : Nat} {v : Value} {k : Nat} {xs : List Int} (hs : a.eval s = v) {w0 : World} (hown : OwQ w0 B v k xs) (p : Int) (hw : w = w0.alloc (.cells #[.int .i64 p, .int .i64 0, .int .i64 0] 52))
    (hx : a.eval x = .slice (some ⟨w0.heap.size, 0, none⟩) 1 1) (hn : (k + 1) * 24 ≤ 140737488355328) (hbase : B ≤ w0.heap.size)
    (h : ∀ v' w', Hid (OwQ w' B v' (k + 1) (xs ++ [p, 0, 0])) → Hid (Mb.Kept w0 w' (fun k => v.ownBlock = some k)) → wpList Try.prog ops Q rest (a.put o.dst v') w') : wpList Try.prog ops Q (o :: rest) a w := by
  subst hw
  have hb : Below w0.heap.size w0 (w0.alloc (.cells #[.int .i64 p, .int .i64 0, .int .i64 0] 52)) := bsp _ _ _
  refine app_Q hgd s x ho hs (Mb.own_still hown hb) (ys := [p, 0, 0]) hx ⟨rfl, fun h => (by cases h), .inr ⟨w0.heap.size, 0, rfl, fun i hi => ?_⟩⟩ hn (Nat.le_trans hbase hb.size) ?_
  · rw [Nat.zero_add, blk_cell (heap_new w0 _ _)]
    match i, hi with
    | 0, _ | 1, _ | 2, _ => rfl
  · intro v' w' h1 h2
    exact h v' w' h1 ((Mb.Kept.ofBelow hb (fun k => v.ownBlock = some k)).trans h2.out)
theorem app_B1 {ops : Array Oper} {rest : List Oper} {o : Oper} {a : Act} {Q : Exit → Act → World → Prop} (hgd : o.guard = none) (s x : Operand)
    (ho : o.op = .call { callee := .builtin .append, args := #[s, x], argTypes := #[45, 45] }) {B : Nat} {v : Value} {xs : List Int} (hs : a.eval s = v) {w0 : World} (hown : OwB w0 B v xs) (p : Int) (hp : 0 ≤ p ∧ p ≤ 255) (hw : w = w0.alloc (.cells #[.int .u8 p] 5))
    (hx : a.eval x = .slice (some ⟨w0.heap.size, 0, none⟩) 1 1) (hn : xs.length + 1 ≤ 140737488355328) (hbase : B ≤ w0.heap.size)
    (h : ∀ v' w', Hid (OwB w' B v' (xs ++ [p])) → Hid (Mb.Kept w0 w' (fun k => v.ownBlock = some k)) → wpList Try.prog ops Q rest (a.put o.dst v') w') : wpList Try.prog ops Q (o :: rest) a w := by
  subst hw
  have hb : Below w0.heap.size w0 (w0.alloc (.cells #[.int .u8 p] 5)) := bsp _ _ _
  refine app_B hgd s x ho hs (Mb.own_still hown hb) (ys := [p]) hx ⟨rfl, Nat.le_refl _, fun h => (by cases h), .inr ⟨w0.heap.size, 0, rfl, fun i hi => ?_⟩, fun i => ?_⟩ (fun h => (by cases h)) hn (Nat.le_trans hbase hb.size) ?_
  · obtain rfl : i = 0 := by omega
    exact blk_cell (heap_new w0 #[.int .u8 p] 5) 0
  · cases i with
    | zero => simpa using hp
    | succ i => simp
  · intro v' w' h1 h2 _
    exact h v' w' h1 ((Mb.Kept.ofBelow hb (fun k => v.ownBlock = some k)).trans h2.out)
theorem app_Sg {ops : Array Oper} {rest : List Oper} {o : Oper} {a : Act} {Q : Exit → Act → World → Prop} (tS tE : TypeId) (hu : Try.prog.underlying tS = some (.slice tE)) (hin : (Try.prog.info? tE).map (fun i => (i.zero, i.size, i.bytes)) = some (some (.slice none 0 0), 1, 24)) (hgd : o.guard = none) (s x : Operand)
    (ho : o.op = .call { callee := .builtin .append, args := #[s, x], argTypes := #[tS, tS] }) {B : Nat} {v : Value} {n : Nat} {xs : List Value} (hs : a.eval s = v) {w0 : World} (hown : w0.ownsRow B tE 1 v n xs) (sa : Option Addr) (sn sc : Nat) (hw : w = w0.alloc (.cells #[.slice sa sn sc] tE))
    (hx : a.eval x = .slice (some ⟨w0.heap.size, 0, none⟩) 1 1) (hn : (n + 1) * 24 ≤ 140737488355328) (hbase : B ≤ w0.heap.size)
    (h : ∀ v' w', Hid (w'.ownsRow B tE 1 v' (n + 1) (xs ++ [.slice sa sn sc])) → Hid (Mb.Kept w0 w' (fun k => v.ownBlock = some k)) → wpList Try.prog ops Q rest (a.put o.dst v') w') : wpList Try.prog ops Q (o :: rest) a w := by
  subst hw
  obtain ⟨i0, hi, hz0, hz1, hz2⟩ := info_parts hin
  have hb : Below w0.heap.size w0 (w0.alloc (.cells #[.slice sa sn sc] tE)) := bsp _ _ _
  refine app_g hgd s x tS ho B tE i0 (.slice none 0 0) 1 24 hu hi hz0 hz1 hz2 rfl (by omega) v n xs hs (Mb.own_still hown hb) (some ⟨w0.heap.size, 0, none⟩) 1 1 [.slice sa sn sc] hx (by simp) rfl ?_ (by intro u hu; obtain rfl := List.mem_singleton.1 hu; rfl) (by unfold maxLen; omega) hn (Nat.le_trans hbase hb.size) ?_
  · intro ad he j u hu
    cases he
    rw [Addr.add_mid, Nat.zero_add, blk_cell (heap_new w0 #[.slice sa sn sc] tE)]
    simpa using hu
  · intro v' w' h1 h2 _
    exact h v' w' h1 ((Mb.Kept.ofBelow hb (fun k => v.ownBlock = some k)).trans h2.out)
theorem inM : (Try.prog.info? 44).map (fun i => (i.zero, i.size, i.bytes)) = some (some (.slice none 0 0), 1, 24) := by kernel_rfl
theorem inI : (Try.prog.info? 23).map (fun i => (i.zero, i.size, i.bytes)) = some (some (.slice none 0 0), 1, 24) := by kernel_rfl
theorem inB : (Try.prog.info? 45).map (fun i => (i.zero, i.size, i.bytes)) = some (some (.slice none 0 0), 1, 24) := by kernel_rfl
theorem builtQs (p : Int) : Try.prog.builtSlice 52 1 [(0, .agg #[.int .i64 p, .int .i64 0, .int .i64 0])] = some #[.int .i64 p, .int .i64 0, .int .i64 0] := by kernel_rfl
def flm (l : List Mk) : List Value := l.flatMap Mk.cs
theorem flm_len (l : List Mk) : (flm l).length = l.length * 26 := by
  induction l with
  | nil => rfl
  | cons e es ih => simp [flm, List.flatMap_cons, Mk.len] at *; omega
theorem flm_app (l : List Mk) (e : Mk) : flm (l ++ [e]) = flm l ++ e.cs := by simp [flm]
theorem flm_at {l : List Mk} {i j : Nat} {v : Value} (hi : i < l.length) (hv : (l.getD i mk0).cs[j]? = some v) : (flm l)[i * 26 + j]? = some v := by
  have hj : j < 26 := by have := (List.getElem?_eq_some_iff.1 hv).1; rwa [Mk.len] at this
  induction l generalizing i with
  | nil => simp at hi
  | cons e es ih =>
    have e1 : flm (e :: es) = e.cs ++ flm es := by simp [flm]
    cases i with
    | zero =>
      rw [e1, Nat.zero_mul, Nat.zero_add, List.getElem?_append_left (by rw [Mk.len]; omega)]
      simpa using hv
    | succ i =>
      rw [e1, List.getElem?_append_right (by rw [Mk.len]; omega), Mk.len, show (i + 1) * 26 + j - 26 = i * 26 + j by omega]
      exact ih (by simpa using hi) (by simpa using hv)
def OwM (w : World) (B : Nat) (v : Value) (l : List Mk) : Prop := w.ownsRow B 50 26 v l.length (flm l)
theorem OwM.rd {a : Option Addr} {n c : Nat} {l : List Mk} (h : OwM w B (.slice a n c) l) : MkR w a n l := by
  obtain ⟨h1, h2⟩ := h
  rcases h2 with ⟨e, e0⟩ | ⟨g, cap, cur, e, _, hh, hc, _, hs, ht⟩
  · cases e
    exact ⟨e0, .inl rfl⟩
  · cases e
    refine ⟨rfl, .inr ⟨g, 0, rfl, fun i hi j v hv => ?_⟩⟩
    rw [blk_cell hh, Nat.zero_add]
    have hj : j < 26 := by have := (List.getElem?_eq_some_iff.1 hv).1; rwa [Mk.len] at this
    have hf := flm_at hi hv
    rw [← ht, List.getElem?_take, if_pos (by omega)] at hf
    simpa using hf
theorem step_M {ops : Array Oper} {o : Oper} {a : Act} {K : Act → World → Prop} {Q : Exit → Act → World → Prop} {E : Prop} (hgd : o.guard = none) (s x : Operand)
    (ho : o.op = .call { callee := .builtin .append, args := #[s, x], argTypes := #[22, 22] }) {B : Nat} {v : Value} {es : List Mk} (hs : a.eval s = v) {w0 : World} (hown : OwM w0 B v es) (e : Mk) (hw : w = w0.alloc (.cells e.cs.toArray 50))
    (hx : a.eval x = .slice (some ⟨w0.heap.size, 0, none⟩) 1 1) (hn : (es.length + 1) * 288 ≤ 140737488355328) (hbase : B ≤ w0.heap.size)
    (h : ∀ v' w', OwM w' B v' (es ++ [e]) → Mb.Kept w0 w' (fun k => v.ownBlock = some k) → K (a.put o.dst v') w') : if Region.wanted o (yielded ops a.tmps) = true then Oper.wp Try.prog o a w K Q else E := by
  have hwt : Region.wanted o (yielded ops a.tmps) = true := by simp [Region.wanted, hgd]
  rw [if_pos hwt]
  subst hw
  obtain ⟨i0, hi, hz0, hz1, hz2⟩ := info_parts info_mk
  have hb : Below w0.heap.size w0 (w0.alloc (.cells e.cs.toArray 50)) := bsp _ _ _
  obtain ⟨v', w', hr, h2, h3, h4, h5⟩ := run_append_own_at (P := Try.prog) (w0.alloc (.cells e.cs.toArray 50)) B 22 o.type 50 i0 (.agg mk0.cs.toArray) 26 288 Try.underlying22 hi hz0 hz1 hz2 rfl (by omega) v es.length (flm es) (Mb.own_still hown hb) ⟨w0.heap.size, 0, none⟩ 1 1 e.cs (by rw [Mk.len]) (fun j u hu => by
    rw [Addr.add_mid, Nat.zero_add, blk_cell (heap_new w0 e.cs.toArray 50)]
    simpa using hu) (Mk.one e) (by unfold maxLen; omega) hn (Nat.le_trans hbase hb.size)
  unfold Oper.wp execOp
  simp only [ho, resolve, invoke, builtin, Sem.run_bind, Sem.run_pure, Result.andThen_ok, List.map_toArray, List.map_cons, List.map_nil, hs, hx, hr]
  refine h v' w' ?_ ((Mb.Kept.ofBelow hb (fun k => v.ownBlock = some k)).trans ((Mb.Kept.ofGrown h3).mono fun k _ hk => hk.symm))
  show World.ownsRow _ _ _ _ _ _ _
  rw [List.length_append, flm_app]
  exact h2
def fl2 (gs : Nat → Nat × Nat) (ln : Nat → Nat) (j : Nat) : List Value := (List.range j).map (fun i => .slice (some ⟨(gs i).1, 0, none⟩) (ln i + 64) (gs i).2)
theorem fl2_len (gs : Nat → Nat × Nat) (ln : Nat → Nat) (j : Nat) : (fl2 gs ln j).length = j := by simp [fl2]
theorem fl2_succ (gs : Nat → Nat × Nat) (ln : Nat → Nat) (j g cc : Nat) : fl2 (fun i => if i = j then (g, cc) else gs i) ln (j + 1) = fl2 gs ln j ++ [.slice (some ⟨g, 0, none⟩) (ln j + 64) cc] := by
  simp only [fl2, List.range_succ, List.map_append, List.map_cons, List.map_nil]
  congr 1
  · apply List.map_congr_left
    intro i hi
    rw [List.mem_range] at hi
    rw [if_neg (by omega)]
def Fo (w : World) (B t s : Nat) (gs : Nat → Nat × Nat) (ln : Nat → Nat) (cs : Nat → List Value) (j : Nat) : Prop := ∀ i, i < j → w.ownsRow B t s (.slice (some ⟨(gs i).1, 0, none⟩) (ln i + 64) (gs i).2) (ln i + 64) (cs i)
theorem Fo.keep {t s : Nat} {gs : Nat → Nat × Nat} {ln : Nat → Nat} {cs : Nat → List Value} {j : Nat} (h : Fo w B t s gs ln cs j) (k : Mb.Kept w w' P) (hP : ∀ q, P q → ∀ C u, w.heap[q]? = some (.cells C u (0, 0)) → u ≠ t) : Fo w' B t s gs ln cs j := fun i hi => k.owns (h i hi) (fun g hg hp => by
  obtain ⟨C, hC⟩ := Ln.own_ty (h i hi) hg
  exact hP g hp C _ hC rfl)
theorem Fo.add {t s : Nat} {gs : Nat → Nat × Nat} {ln : Nat → Nat} {cs : Nat → List Value} {j g cc : Nat} (h : Fo w B t s gs ln cs j) (hg : w.ownsRow B t s (.slice (some ⟨g, 0, none⟩) (ln j + 64) cc) (ln j + 64) (cs j)) : Fo w B t s (fun i => if i = j then (g, cc) else gs i) ln cs (j + 1) := by
  intro i hi
  by_cases e : i = j
  · subst e
    simp only [if_pos]
    exact hg
  · simp only [if_neg e]
    exact h i (by omega)
def lz (e : Mk) (g t b : Nat × Nat) : Mk := { e with ma := some ⟨g.1, 0, none⟩, mc := g.2, ta := some ⟨t.1, 0, none⟩, tc := t.2, ba := some ⟨b.1, 0, none⟩, bc := b.2 }
structure Lz (W wr : World) (B xb : Nat) (l : List Mk) (n0 n1 n2 n3 : Nat) (La : Option Addr) (Lc : Nat) (Ma : Option Addr) (Mc : Nat) (Ta : Option Addr) (Tc : Nat) (Ba : Option Addr) (Bc : Nat) (l' : List Mk) (gm gt gb : Nat → Nat × Nat) : Prop where
  t : wr.heap[xb]? = some (.cells #[.slice La n0 Lc, .slice Ma n1 Mc, .slice Ta n2 Tc, .slice Ba n3 Bc] 34 (0, 0))
  o : OwM wr B (.slice La n0 Lc) l'
  m : wr.ownsRow B 44 1 (.slice Ma n1 Mc) n1 (fl2 gm (fun i => (l.getD i mk0).mn) n1)
  r : wr.ownsRow B 23 1 (.slice Ta n2 Tc) n2 (fl2 gt (fun i => (l.getD i mk0).tn) n2)
  y : wr.ownsRow B 45 1 (.slice Ba n3 Bc) n3 (fl2 gb (fun i => (l.getD i mk0).bn) n3)
  fm : Fo wr B 52 3 gm (fun i => (l.getD i mk0).mn) (fun i => Mb.ints (pcQ (l.getD i mk0).ms 64)) n1
  ft : Fo wr B 3 1 gt (fun i => (l.getD i mk0).tn) (fun i => Mb.ints (pcL (l.getD i mk0).ts 64)) n2
  fb : Fo wr B 5 1 gb (fun i => (l.getD i mk0).bn) (fun i => Ln.byts (pcB (l.getD i mk0).bs 64)) n3
  s : ∀ i, i < n0 → l'.getD i mk0 = lz (l.getD i mk0) (gm i) (gt i) (gb i)
  b : Below B W wr
  z : B ≤ xb
def okT (u : Nat) : Prop := u ≠ 34 ∧ u ≠ 50 ∧ u ≠ 44 ∧ u ≠ 23 ∧ u ≠ 45 ∧ u ≠ 52 ∧ u ≠ 3 ∧ u ≠ 5
theorem hBs {W wr : World} {B xb : Nat} {l : List Mk} {n0 n1 n2 n3 : Nat} {La : Option Addr} {Lc : Nat} {Ma : Option Addr} {Mc : Nat} {Ta : Option Addr} {Tc : Nat} {Ba : Option Addr} {Bc : Nat} {l' : List Mk} {gm gt gb : Nat → Nat × Nat} (h : Lz W wr B xb l n0 n1 n2 n3 La Lc Ma Mc Ta Tc Ba Bc l' gm gt gb) : B ≤ wr.heap.size := Nat.le_trans h.z (Nat.le_of_lt (Mb.lt_heap h.t))
theorem Lz.keep {W wr : World} {B xb : Nat} {l : List Mk} {n0 n1 n2 n3 : Nat} {La : Option Addr} {Lc : Nat} {Ma : Option Addr} {Mc : Nat} {Ta : Option Addr} {Tc : Nat} {Ba : Option Addr} {Bc : Nat} {l' : List Mk} {gm gt gb : Nat → Nat × Nat} (h : Lz W wr B xb l n0 n1 n2 n3 La Lc Ma Mc Ta Tc Ba Bc l' gm gt gb) (k : Mb.Kept wr w' P) (hP : ∀ q, P q → ∃ C u, wr.heap[q]? = some (.cells C u (0, 0)) ∧ okT u) (hB : ∀ q, P q → B ≤ q) : Lz W w' B xb l n0 n1 n2 n3 La Lc Ma Mc Ta Tc Ba Bc l' gm gt gb := by
  have ow : ∀ {t s n : Nat} {v : Value} {xs : List Value}, wr.ownsRow B t s v n xs → (∀ u, okT u → u ≠ t) → w'.ownsRow B t s v n xs := fun h1 h2 => k.owns h1 (fun g hg hp => by
    obtain ⟨C, u, hC, hu⟩ := hP g hp
    exact h2 u hu (ow_type h1 hg hC))
  have hq : ∀ (t : Nat), (∀ u, okT u → u ≠ t) → ∀ q, P q → ∀ C u, wr.heap[q]? = some (.cells C u (0, 0)) → u ≠ t := fun t ht q hp C u hC => by
    obtain ⟨C', u', hC', hu⟩ := hP q hp
    rw [hC] at hC'
    simp at hC'
    rw [hC'.2]
    exact ht u' hu
  refine ⟨k.obj h.t (fun hp => ?_), ow h.o (fun u hu => hu.2.1), ow h.m (fun u hu => hu.2.2.1), ow h.r (fun u hu => hu.2.2.2.1), ow h.y (fun u hu => hu.2.2.2.2.1), h.fm.keep k (hq _ (fun u hu => hu.2.2.2.2.2.1)), h.ft.keep k (hq _ (fun u hu => hu.2.2.2.2.2.2.1)), h.fb.keep k (hq _ (fun u hu => hu.2.2.2.2.2.2.2)), h.s, h.b.trans (k.below (hBs h) (fun q hq hp => by have := hB q hp; omega)), h.z⟩
  obtain ⟨C, u, hC, hu⟩ := hP _ hp
  rw [h.t] at hC
  simp at hC
  exact hu.1 hC.2.symm
end
end Go.Proofs.Ytfbgoidhgkcgjaa.Lo
