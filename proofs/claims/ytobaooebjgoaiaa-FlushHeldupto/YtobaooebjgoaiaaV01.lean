import Derived.Test.YtobaooebjgoaiaaV00
import Derived.ChangeKeysEq
import Derived.Laws.Tables
import Derived.Laws.AppendOwnNone
import Derived.Great.BuildSlice
import Derived.Great.Walk
import Derived.Maps.AppendAt
import Derived.Laws.OwnMore
import Derived.Deep.DeepCutAuto
namespace Go.Proofs.Ytobaooebjgoaiaa.Hh
open Go.RowKit Go.Maps Mb
set_option linter.unusedVariables false
set_option linter.unusedSimpArgs false
set_option maxRecDepth 100000
section
variable {w w' W w0 w1 w2 w3 : World} {B K m : Nat}
theorem row_ty {w : World} {B t s n : Nat} {v : Value} {l : List Value} (h : w.ownsRow B t s v n l) {j : Nat} (hj : v.ownBlock = some j) : ∃ cur, w.heap[j]? = some (.cells cur t (0, 0)) := by
 rcases h.2 with ⟨h1, _⟩ | ⟨g, cap, cur, hv, _, hg, _⟩
 ·rw [h1] at hj; simp [Value.ownBlock] at hj
 ·rw [hv] at hj
  simp [Value.ownBlock] at hj
  subst hj
  exact ⟨cur, hg⟩
theorem own_set {t s n : Nat} {v u : Value} {l : List Value} {k i : Nat} (h : w.ownsRow B t s v n l) (hk : v.ownBlock ≠ some k) : (w.setCell ⟨k, i, none⟩ u).ownsRow B t s v n l :=
 (kset (P := fun j => j = k) w k i u rfl).owns h (fun q hq e => hk (by rw [hq, e]))
theorem rowc {t s n : Nat} {v : Value} {l : List Value} (h : w.ownsRow B t s v n l) {j : Nat} (hj : v.ownBlock = some j) : B ≤ j ∧ ∃ cur, w.heap[j]? = some (.cells cur t (0, 0)) := ⟨(World.ownsRow.lt h j hj).1, row_ty h hj⟩
theorem own_sh {t s n : Nat} {v : Value} {l : List Value} (h : w.ownsRow B t s v n l) : ∃ a c, v = .slice a n c := by
 rcases h.2 with ⟨e, h0⟩ | ⟨g, cap, cur, hv, _⟩
 ·exact ⟨none, 0, by rw [e, h0]⟩
 ·exact ⟨_, _, hv⟩
def rv (n : Nat) (f : Nat → Value) : List Value := (List.range n).map f
theorem rv_len (n : Nat) (f : Nat → Value) : (rv n f).length = n := by simp [rv]
theorem rv_get {n : Nat} (f : Nat → Value) {i : Nat} (h : i < n) : (rv n f)[i]? = some (f i) := by simp [rv, h]
theorem rv_congr {n : Nat} {f g : Nat → Value} (h : ∀ i, i < n → f i = g i) : rv n f = rv n g := by
 apply List.ext_getElem
 ·simp [rv]
 ·intro i h1 h2
  simp [rv] at h1 ⊢
  exact h i h1
def upv (f : Nat → Value) (i : Nat) (v : Value) : Nat → Value := fun j => if j = i then v else f j
theorem rv_set {n : Nat} (f : Nat → Value) (i : Nat) (v : Value) : (rv n f).set i v = rv n (upv f i v) := by
 apply List.ext_getElem
 ·simp [rv]
 ·intro j h1 h2
  simp [rv] at h1 h2 ⊢
  rw [List.getElem_set]
  by_cases e : i = j
  ·subst e; simp [upv]
  ·simp [e, upv, show ¬ j = i from fun h => e h.symm]
theorem size_of {t : TypeId} {n : Nat} (h : (Try.prog.info? t).map (·.size) = some n) : (sizeOf t).run Try.prog w = .ok n w := by
 cases hq : Try.prog.info? t with
 | none => simp [hq] at h
 | some i => simp [hq] at h; simp [sizeOf, typeInfo, hq, h]
theorem run_allocZ {t : TypeId} {Z : Array Value} (hz : (Try.prog.info? t).map (·.zero) = some (some (.agg Z))) : (Instr.alloc t true (.tuple #[])).run Try.prog w = .ok (.pointer (some ⟨w.heap.size, 0, none⟩)) (w.alloc (.cells Z t)) := by
 cases hi : Try.prog.info? t with
 | none => rw [hi] at hz; cases hz
 | some i =>
  rw [hi] at hz
  simp only [Option.map_some, Option.some.injEq] at hz
  simp [Instr.alloc, zeroValue, typeInfo, hi, hz, go_sem, newVar, newRow, Value.cells]
theorem wl_allocZ {ops : Array Oper} {rest : List Oper} {o : Oper} {a : Act} {Q : Exit → Act → World → Prop} {Z : Array Value} (hgd : o.guard = none) (t : TypeId) (ho : o.op = .alloc t) (hz : (Try.prog.info? t).map (·.zero) = some (some (.agg Z)))
  (h : ∀ W : World, W.heap[w.heap.size]? = some (.cells Z t (0, 0)) → Below w.heap.size w W → w.heap.size < W.heap.size → wpList Try.prog ops Q rest (a.put o.dst (.pointer (some ⟨w.heap.size, 0, none⟩))) W) : wpList Try.prog ops Q (o :: rest) a w :=
 wpList_plain hgd fun K hK => by
  unfold Oper.wp execOp
  simp only [ho, Sem.run_bind, run_allocZ hz, Result.andThen_ok, Sem.run_pure]
  exact hK _ _ (h _ (heap_alloc_new w _) ((Below.refl _ _).alloc (Nat.le_refl _) _) (by simp))
theorem wl_buildZ {ops : Array Oper} {rest : List Oper} {o : Oper} {a : Act} {Q : Exit → Act → World → Prop} {cs : Array Value} (hgd : o.guard = none) (t : TypeId) (parts : Array (Nat × Operand)) (ho : o.op = .build t parts) (hf : Try.prog.built t (parts.map fun (i, x) => (i, a.eval x)).toList = some cs)
  (h : wpList Try.prog ops Q rest (a.put o.dst (.agg cs)) w) : wpList Try.prog ops Q (o :: rest) a w :=
 wpList_build hgd t parts ho (by rw [hf]; rfl) (by rw [hf]; exact h)
theorem built_eq {t : TypeId} {l l' : List (Nat × Value)} {c : Array Value} (e : l = l') (h : Try.prog.built t l' = some c) : Try.prog.built t l = some c := e ▸ h
theorem wl_storeZ {ops : Array Oper} {rest : List Oper} {o : Oper} {a : Act} {Q : Exit → Act → World → Prop} (hgd : o.guard = none) (ty : TypeId) (x y : Operand) (ho : o.op = .store ty x y) {g : Nat} {L : List Value} {t : TypeId} {old : Array Value} (hx : a.eval x = .pointer (some ⟨g, 0, none⟩)) (hy : a.eval y = .agg L.toArray) (hg : w.heap[g]? = some (.cells old t (0, 0))) (hi : (Try.prog.info? ty).map (·.size) = some L.length) (hold : old.size = L.length) (h1 : ∀ u ∈ L, u.oneCell' = true)
  (h : ∀ W : World, W.heap[g]? = some (.cells L.toArray t (0, 0)) → Kept w W (fun j => j = g) → wpList Try.prog ops Q rest (a.put o.dst undef) W) : wpList Try.prog ops Q (o :: rest) a w :=
 Ln.wl_storeL hgd ty x y ho hx hy (Ln.blk_there hg hold) hi h1 (h _ (Ln.sets_whole hg hold) (ksets (P := fun j => j = g) rfl _ _ _))
section
variable {ops : Array Oper} {rest : List Oper} {o : Oper} {a : Act} {K : Act → World → Prop} {Q : Exit → Act → World → Prop} {E EE : Prop}
theorem wl_stS (hgd : o.guard = none) (ty : TypeId) (x y : Operand) (ho : o.op = .store ty x y) {g p t : Nat} {C : Array Value} {sa : Option Addr} {sn sc : Nat} (hx : a.eval x = .pointer (some ⟨g, p, none⟩)) (hy : a.eval y = .slice sa sn sc) (hg : w.heap[g]? = some (.cells C t (0, 0))) (hp : p < C.size) (hz : (Try.prog.info? ty).map (·.size) = some 1) (hd : o.dst = none)
  (h : wpList Try.prog ops Q rest a (w.setCell ⟨g, p, none⟩ (.slice sa sn sc))) : wpList Try.prog ops Q (o :: rest) a w :=
 wpList_plain hgd fun K hK => by
  have q : w.cell? ⟨g, p, none⟩ = some C[p] := by rw [blk_cell hg p]; exact Array.getElem?_eq_getElem hp
  have zz : w.frozen? ⟨g, p, none⟩ = false := frozen_of_row w _ _ _ _ hg
  have hs := size_of (w := w) hz
  unfold Oper.wp execOp
  simp only [ho, hx, hy]
  go_simp
  have hk := hK a _ h
  rw [hd] at *
  exact hk
theorem step_stS (hgd : o.guard = none) (ty : TypeId) (x y : Operand) (ho : o.op = .store ty x y) {g p t : Nat} {C : Array Value} {sa : Option Addr} {sn sc : Nat} (hx : a.eval x = .pointer (some ⟨g, p, none⟩)) (hy : a.eval y = .slice sa sn sc) (hg : w.heap[g]? = some (.cells C t (0, 0))) (hp : p < C.size) (hz : (Try.prog.info? ty).map (·.size) = some 1) (hd : o.dst = none)
  (h : K a (w.setCell ⟨g, p, none⟩ (.slice sa sn sc))) : if Region.wanted o (yielded ops a.tmps) = true then Oper.wp Try.prog o a w K Q else EE := by
 rw [if_pos (show Region.wanted o (yielded ops a.tmps) = true by simp [Region.wanted, hgd])]
 have q : w.cell? ⟨g, p, none⟩ = some C[p] := by rw [blk_cell hg p]; exact Array.getElem?_eq_getElem hp
 have zz : w.frozen? ⟨g, p, none⟩ = false := frozen_of_row w _ _ _ _ hg
 have hs := size_of (w := w) hz
 unfold Oper.wp execOp
 simp only [ho, hx, hy]
 go_simp
 have hk := h
 rw [hd] at *
 exact hk
theorem wp_bsl (t e : TypeId) (len : Nat) (parts : Array (Nat × Operand)) (ho : o.op = .buildSlice t len parts) (hu : Try.prog.underlying t = some (.slice e)) (cells : Array Value)
  (hf : Try.prog.builtSlice e len (parts.map fun (i, x) => (i, a.eval x)).toList = some cells)
  (h : K (a.put o.dst (.slice (some ⟨w.heap.size, 0, none⟩) len len)) (w.alloc (.cells cells e))) : Oper.wp Try.prog o a w K Q := by
 unfold Program.builtSlice at hf
 cases hie : Try.prog.info? e with
 | none => simp [hie] at hf
 | some ie =>
  simp only [hie] at hf
  cases hz : ie.zero with
  | none => simp [hz] at hf
  | some z =>
   simp only [hz] at hf
   by_cases hc : len * ie.size > 2 ^ 24 ∨ len * ie.size = 0
   ·simp [hc] at hf
   ·rw [if_neg hc] at hf
    exact wp_buildSlice t e len parts ho cells ie z hu hie hz (fun h' => hc (Or.inl h')) (fun h' => hc (Or.inr h')) hf h
theorem step_bsl (hgd : o.guard = none) (t e : TypeId) (len : Nat) (parts : Array (Nat × Operand)) (ho : o.op = .buildSlice t len parts) (hu : Try.prog.underlying t = some (.slice e)) (cells : Array Value)
  (hf : Try.prog.builtSlice e len (parts.map fun (i, x) => (i, a.eval x)).toList = some cells)
  (h : ∀ V : World, V.heap[w.heap.size]? = some (.cells cells e (0, 0)) → Below w.heap.size w V → w.heap.size < V.heap.size → K (a.put o.dst (.slice (some ⟨w.heap.size, 0, none⟩) len len)) V) : if Region.wanted o (yielded ops a.tmps) = true then Oper.wp Try.prog o a w K Q else E := by
 have hwt : Region.wanted o (yielded ops a.tmps) = true := by simp [Region.wanted, hgd]
 rw [if_pos hwt]
 exact wp_bsl t e len parts ho hu cells hf (h _ (heap_alloc_new w _) ((Below.refl _ _).alloc (Nat.le_refl _) _) (by simp))
theorem wl_bsl (hgd : o.guard = none) (t e : TypeId) (len : Nat) (parts : Array (Nat × Operand)) (ho : o.op = .buildSlice t len parts) (hu : Try.prog.underlying t = some (.slice e)) (cells : Array Value)
  (hf : Try.prog.builtSlice e len (parts.map fun (i, x) => (i, a.eval x)).toList = some cells)
  (h : ∀ V : World, V.heap[w.heap.size]? = some (.cells cells e (0, 0)) → Below w.heap.size w V → w.heap.size < V.heap.size → wpList Try.prog ops Q rest (a.put o.dst (.slice (some ⟨w.heap.size, 0, none⟩) len len)) V) : wpList Try.prog ops Q (o :: rest) a w :=
 wpList_plain hgd fun K hK => wp_bsl t e len parts ho hu cells hf (hK _ _ (h _ (heap_alloc_new w _) ((Below.refl _ _).alloc (Nat.le_refl _) _) (by simp)))
theorem bsl_eq {e : TypeId} {n : Nat} {l l' : List (Nat × Value)} {c : Array Value} (e1 : l = l') (h : Try.prog.builtSlice e n l' = some c) : Try.prog.builtSlice e n l = some c := e1 ▸ h
theorem app_g (hgd : o.guard = none) (s x : Operand) (t : TypeId)
  (ho : o.op = .call { callee := .builtin .append, args := #[s, x], argTypes := #[t, t] })
  (base : Nat) (e : TypeId) (i : TypeInfo) (z : Value) (size bytes : Nat) (ht : Try.prog.underlying t = some (.slice e)) (hi : Try.prog.info? e = some i) (hz : i.zero = some z)
  (hsize : i.size = size) (hby : i.bytes = bytes) (hzs : z.cells.size = size) (hsz : 0 < size)
  (v : Value) (n : Nat) (xs : List Value) (hs : a.eval s = v) (hown : w.ownsRow base e size v n xs)
  (ao : Option Addr) (m c : Nat) (news : List Value) (hx : a.eval x = .slice ao m c) (hnone : ao = none → m = 0 ∧ c = 0) (hl : news.length = m * size) (hnews : ∀ ad, ao = some ad → ∀ j u, news[j]? = some u → w.cell? (ad.add j) = some u) (h1 : ∀ u ∈ news, u.oneCell' = true)
  (h63 : n + m ≤ maxLen) (hbytes : (n + m) * bytes ≤ 140737488355328) (hbase : base ≤ w.heap.size)
  (h : ∀ v' w', Hid (w'.ownsRow base e size v' (n + m) (xs ++ news)) → Hid (Kept w w' (fun k => v.ownBlock = some k)) → Hid (v'.ownBlock = v.ownBlock ∨ v'.ownBlock = some w.heap.size) → wpList Try.prog ops Q rest (a.put o.dst v') w') :
  wpList Try.prog ops Q (o :: rest) a w := by
 cases ao with
 | some ad =>
  refine wpList_append_own_at w hgd s x t ho base e i z size bytes ht hi hz hsize hby hzs hsz v n xs hs hown ad m c news hx hl (hnews ad rfl) h1 h63 hbytes hbase ?_
  intro v' w' h2 h3 _ h5
  exact h v' w' h2 ((Kept.ofGrown h3).mono fun k _ hk => hk.symm) h5
 | none =>
  obtain ⟨rfl, rfl⟩ := hnone rfl
  obtain rfl : news = [] := List.eq_nil_of_length_eq_zero (by rw [hl]; omega)
  exact wpList_append_own_none hgd s x t ho base e i size ht hi v n xs hs hown hx (h v w (by show World.ownsRow _ _ _ _ _ _ _; simpa using hown) (Kept.refl _ _) (.inl rfl))
end
end
end Go.Proofs.Ytobaooebjgoaiaa.Hh
namespace Go.Proofs.Ytobaooebjgoaiaa.Hh
open Go.RowKit Go.Maps Mb
set_option linter.unusedVariables false
set_option linter.unusedSimpArgs false
set_option maxRecDepth 100000
structure Sl where
 a : Option Addr
 n : Nat
 c : Nat
def Sl.v (s : Sl) : Value := .slice s.a s.n s.c
section
variable {w w' w1 w2 w3 : World} {B T s : Nat}
theorem rv_app (n : Nat) (f : Nat → Value) : rv (n + 1) f = rv n f ++ [f n] := by simp [rv, List.range_succ]
theorem rv_appL (n m : Nat) (f : Nat → Value) (L : List Value) (hl : L.length = m) (h : ∀ i, i < m → L[i]? = some (f (n + i))) : rv (n + m) f = rv n f ++ L := by
 apply List.ext_getElem?
 intro i
 by_cases h1 : i < n
 ·rw [List.getElem?_append_left (by rw [rv_len]; exact h1), rv_get f h1, rv_get f (by omega)]
 ·rw [List.getElem?_append_right (by rw [rv_len]; omega), rv_len]
  by_cases h2 : i < n + m
  ·rw [rv_get f h2, h (i - n) (by omega), show n + (i - n) = i by omega]
  ·rw [List.getElem?_eq_none (by rw [rv_len]; omega), List.getElem?_eq_none (by omega)]
theorem rv_take (n m : Nat) (f : Nat → Value) (h : n ≤ m) : (rv m f).take n = rv n f := by
 apply List.ext_getElem?
 intro i
 rw [List.getElem?_take]
 by_cases h1 : i < n
 ·rw [if_pos h1, rv_get f h1, rv_get f (by omega)]
 ·rw [if_neg h1, List.getElem?_eq_none (by rw [rv_len]; omega)]
def TyP (w : World) (P : Nat → Prop) (Q : Nat → Prop) : Prop := ∀ j, P j → ∃ cur t, Q t ∧ w.heap[j]? = some (.cells cur t (0, 0))
theorem TyP.off {P Q : Nat → Prop} (h : TyP w P Q) {t n : Nat} {v : Value} {l : List Value} (ho : w.ownsRow B t s v n l) (hq : ¬ Q t) : ∀ g, v.ownBlock = some g → ¬ P g := fun g hg hp => by
 obtain ⟨cur, h1⟩ := row_ty ho hg
 obtain ⟨c2, t2, h2, h3⟩ := h g hp
 rw [h1] at h3
 simp at h3
 exact hq (h3.2 ▸ h2)
theorem TyP.own {t n : Nat} {v : Value} {l : List Value} (ho : w.ownsRow B t s v n l) : TyP w (fun j => v.ownBlock = some j) (fun x => x = t) := fun j hj => by
 obtain ⟨cur, h1⟩ := row_ty ho hj
 exact ⟨cur, t, rfl, h1⟩
theorem TyP.keep {P Q : Nat → Prop} (h : TyP w P Q) {t n : Nat} {v : Value} {l : List Value} (ho : w.ownsRow B t s v n l) (hq : ¬ Q t) (k : Kept w w' P) : w'.ownsRow B t s v n l := k.owns ho (h.off ho hq)
structure Fm (B T s : Nat) (w : World) (N : Nat) (v : Nat → Sl) (f : Nat → Nat → Value) : Prop where
 o : ∀ i, i < N → w.ownsRow B T s (v i).v (v i).n (rv ((v i).n * s) (f i))
 d : ∀ i j, i < N → j < N → i ≠ j → ∀ g, (v i).v.ownBlock = some g → (v j).v.ownBlock ≠ some g
structure Gr (B T s : Nat) (w : World) (N : Nat) (v : Nat → Sl) (K : Nat) (u : Nat → Sl) (G : Nat → Nat → Value) : Prop where
 n : ∀ i, i < K → (u i).n = (v i).n + 64
 o : ∀ i, i < K → w.ownsRow B T s (u i).v (u i).n (rv ((u i).n * s) (G i))
 d : ∀ i j, i < K → j < N → i ≠ j → ∀ g, (u i).v.ownBlock = some g → (v j).v.ownBlock ≠ some g
section
variable {N K : Nat} {v u : Nat → Sl} {f G : Nat → Nat → Value} {P Q : Nat → Prop}
theorem Fm.kept (h : Fm B T s w N v f) (k : Kept w w' P) (hp : ∀ i, i < N → ∀ g, (v i).v.ownBlock = some g → ¬ P g) : Fm B T s w' N v f := ⟨fun i hi => k.owns (h.o i hi) (hp i hi), h.d⟩
theorem Gr.kept (h : Gr B T s w N v K u G) (k : Kept w w' P) (hp : ∀ i, i < K → ∀ g, (u i).v.ownBlock = some g → ¬ P g) : Gr B T s w' N v K u G := ⟨h.n, fun i hi => k.owns (h.o i hi) (hp i hi), h.d⟩
theorem Fm.keptT (h : Fm B T s w N v f) (k : Kept w w' P) (ht : TyP w P Q) (hq : ¬ Q T) : Fm B T s w' N v f := h.kept k fun i hi => ht.off (h.o i hi) hq
theorem Gr.keptT (h : Gr B T s w N v K u G) (k : Kept w w' P) (ht : TyP w P Q) (hq : ¬ Q T) : Gr B T s w' N v K u G := h.kept k fun i hi => ht.off (h.o i hi) hq
theorem Fm.still (h : Fm B T s w N v f) (hb : Below w.heap.size w w') : Fm B T s w' N v f := h.kept (Kept.ofBelow hb (fun _ => False)) (fun _ _ _ _ => id)
theorem Gr.still (h : Gr B T s w N v K u G) (hb : Below w.heap.size w w') : Gr B T s w' N v K u G := h.kept (Kept.ofBelow hb (fun _ => False)) (fun _ _ _ _ => id)
theorem Fm.congr {f' : Nat → Nat → Value} (h : Fm B T s w N v f) (e : ∀ i, i < N → ∀ j, j < (v i).n * s → f' i j = f i j) : Fm B T s w N v f' := ⟨fun i hi => by rw [rv_congr (e i hi)]; exact h.o i hi, h.d⟩
theorem Fm.lt (h : Fm B T s w N v f) {i : Nat} (hi : i < N) {g : Nat} (hg : (v i).v.ownBlock = some g) : g < w.heap.size ∧ B ≤ g := by
 obtain ⟨hb, cur, hc⟩ := rowc (h.o i hi) hg
 exact ⟨(Array.getElem?_eq_some_iff.1 hc).1, hb⟩
theorem Gr.lt (h : Gr B T s w N v K u G) {i : Nat} (hi : i < K) {g : Nat} (hg : (u i).v.ownBlock = some g) : g < w.heap.size ∧ B ≤ g := by
 obtain ⟨hb, cur, hc⟩ := rowc (h.o i hi) hg
 exact ⟨(Array.getElem?_eq_some_iff.1 hc).1, hb⟩
end
def Ty (c : Nat) : Nat := if c = 0 then 5 else if c = 1 then 3 else if c = 2 then 76 else if c = 3 then 28 else if c = 4 then 95 else 97
def Ety (c : Nat) : Nat := if c = 0 then 92 else if c = 1 then 26 else if c = 2 then 25 else if c = 3 then 22 else if c = 4 then 29 else 60
def Sz (c : Nat) : Nat := if c = 0 then 1 else if c = 1 then 1 else if c = 2 then 2 else if c = 3 then 7 else if c = 4 then 4 else 4
theorem ty_ne {c d : Nat} (hc : c < 6) (hd : d < 6) (h : c ≠ d) : Ty c ≠ Ty d := by
 have h1 : c = 0 ∨ c = 1 ∨ c = 2 ∨ c = 3 ∨ c = 4 ∨ c = 5 := by omega
 have h2 : d = 0 ∨ d = 1 ∨ d = 2 ∨ d = 3 ∨ d = 4 ∨ d = 5 := by omega
 rcases h1 with rfl | rfl | rfl | rfl | rfl | rfl <;> rcases h2 with rfl | rfl | rfl | rfl | rfl | rfl <;> first | exact absurd rfl h | decide
theorem ety_ne {c d : Nat} (hc : c < 6) (hd : d < 6) (h : c ≠ d) : Ety c ≠ Ety d := by
 have h1 : c = 0 ∨ c = 1 ∨ c = 2 ∨ c = 3 ∨ c = 4 ∨ c = 5 := by omega
 have h2 : d = 0 ∨ d = 1 ∨ d = 2 ∨ d = 3 ∨ d = 4 ∨ d = 5 := by omega
 rcases h1 with rfl | rfl | rfl | rfl | rfl | rfl <;> rcases h2 with rfl | rfl | rfl | rfl | rfl | rfl <;> first | exact absurd rfl h | decide
theorem tye_ne {c d : Nat} (hc : c < 6) (hd : d < 6) : Ty c ≠ Ety d := by
 have h1 : c = 0 ∨ c = 1 ∨ c = 2 ∨ c = 3 ∨ c = 4 ∨ c = 5 := by omega
 have h2 : d = 0 ∨ d = 1 ∨ d = 2 ∨ d = 3 ∨ d = 4 ∨ d = 5 := by omega
 rcases h1 with rfl | rfl | rfl | rfl | rfl | rfl <;> rcases h2 with rfl | rfl | rfl | rfl | rfl | rfl <;> decide
theorem ty_h {c : Nat} (hc : c < 6) : Ty c ≠ 40 ∧ Ety c ≠ 40 := by
 have h1 : c = 0 ∨ c = 1 ∨ c = 2 ∨ c = 3 ∨ c = 4 ∨ c = 5 := by omega
 rcases h1 with rfl | rfl | rfl | rfl | rfl | rfl <;> decide
theorem sz_pos (c : Nat) : 0 < Sz c := by
 unfold Sz
 repeat' split
 all_goals omega
structure St where
 r : Nat → Sl
 q : Nat → Sl
 N : Nat → Nat
 v : Nat → Nat → Sl
 u : Nat → Nat → Sl
 z : Nat → Value
def St.cs (S : St) : Array Value := #[(S.r 0).v, (S.q 0).v, (S.r 1).v, (S.q 1).v, (S.r 2).v, (S.q 2).v, (S.r 3).v, (S.q 3).v, (S.r 4).v, (S.q 4).v, (S.r 5).v, (S.q 5).v, S.z 0, S.z 1, S.z 2, S.z 3]
def mrk (c i : Nat) : List Value := if c = 0 then [.int .u8 (1 + (i : Int) % 250)] else if c = 1 then [.int .i64 (-1000 - (i : Int))] else if c = 2 then [.int .i64 0, .int .i64 (-1000 - (i : Int))] else if c = 3 then [.int .i64 0, .int .i64 0, .int .i64 0, .int .i64 0, .int .i64 (-1000 - (i : Int)), .slice none 0 0, .slice none 0 0] else if c = 4 then [.int .i64 0, .int .i64 (-1000 - (i : Int)), .int .i64 0, .slice none 0 0] else [.int .i64 0, .int .i64 0, .int .i64 (-1000 - (i : Int)), .slice none 0 0]
theorem mrk_len (c i : Nat) : (mrk c i).length = Sz c := by
 unfold mrk Sz
 repeat' split
 all_goals rfl
def G (c i j : Nat) : Value := (mrk c i).getD (j % Sz c) undef
structure St.Ok (S : St) (w : World) (B hb : Nat) (f : Nat → Nat → Nat → Value) : Prop where
 blk : w.heap[hb]? = some (.cells S.cs 40 (0, 0))
 ge : B ≤ hb
 row : ∀ c, c < 6 → w.ownsRow B (Ety c) 1 (S.r c).v (S.r c).n (rv (S.r c).n fun i => (S.v c i).v)
 mor : ∀ c, c < 6 → w.ownsRow B (Ety c) 1 (S.q c).v (S.q c).n (rv (S.q c).n fun i => (S.u c i).v)
 rq : ∀ c, c < 6 → ∀ j, (S.r c).v.ownBlock = some j → (S.q c).v.ownBlock ≠ some j
 fam : ∀ c, c < 6 → Fm B (Ty c) (Sz c) w (S.N c) (S.v c) (f c)
 gro : ∀ c, c < 6 → Gr B (Ty c) (Sz c) w (S.N c) (S.v c) (S.q c).n (S.u c) (G c)
def St.ownC (S : St) (c j : Nat) : Prop := (S.r c).v.ownBlock = some j ∨ (S.q c).v.ownBlock = some j ∨ (∃ i, i < S.N c ∧ (S.v c i).v.ownBlock = some j) ∨ ∃ i, i < (S.q c).n ∧ (S.u c i).v.ownBlock = some j
def St.own (S : St) (hb j : Nat) : Prop := j = hb ∨ ∃ c, c < 6 ∧ S.ownC c j
section
variable {S S' : St} {hb : Nat} {f f' : Nat → Nat → Nat → Value} {P Q : Nat → Prop}
theorem St.Ok.lt (h : S.Ok w B hb f) {j : Nat} (hj : S.own hb j) : j < w.heap.size ∧ B ≤ j := by
 have aux : ∀ {t s n : Nat} {v : Value} {l : List Value}, w.ownsRow B t s v n l → v.ownBlock = some j → j < w.heap.size ∧ B ≤ j := fun ho hg => by
  obtain ⟨h1, c, h2⟩ := rowc ho hg; exact ⟨lt_heap h2, h1⟩
 rcases hj with rfl | ⟨c, hc, hj | hj | ⟨i, hi, hj⟩ | ⟨i, hi, hj⟩⟩
 ·exact ⟨lt_heap h.blk, h.ge⟩
 ·exact aux (h.row c hc) hj
 ·exact aux (h.mor c hc) hj
 ·exact aux ((h.fam c hc).o i hi) hj
 ·exact aux ((h.gro c hc).o i hi) hj
theorem St.Ok.ne (h : S.Ok w B hb f) {k t : Nat} {C : Array Value} (hk : w.heap[k]? = some (.cells C t (0, 0))) (h1 : t ≠ 40) (h2 : ∀ c, c < 6 → t ≠ Ty c ∧ t ≠ Ety c) : ¬ S.own hb k := by
 have aux : ∀ {t' s n : Nat} {v : Value} {l : List Value}, w.ownsRow B t' s v n l → v.ownBlock = some k → t = t' := fun ho hg => by
  obtain ⟨cur, h3⟩ := row_ty ho hg
  rw [hk] at h3
  simp at h3
  exact h3.2
 rintro (rfl | ⟨c, hc, e | e | ⟨i, hi, e⟩ | ⟨i, hi, e⟩⟩)
 ·have h6 := h.blk
  rw [hk] at h6
  simp at h6
  exact h1 h6.2
 ·exact (h2 c hc).2 (aux (h.row c hc) e)
 ·exact (h2 c hc).2 (aux (h.mor c hc) e)
 ·exact (h2 c hc).1 (aux ((h.fam c hc).o i hi) e)
 ·exact (h2 c hc).1 (aux ((h.gro c hc).o i hi) e)
theorem St.Ok.keep (h : S.Ok w B hb f) (k : Kept w w' P) (hp : ∀ j, S.own hb j → ¬ P j) : S.Ok w' B hb f :=
 ⟨k.obj h.blk (hp _ (.inl rfl)), h.ge, fun c hc => k.owns (h.row c hc) (fun j hj => hp j (.inr ⟨c, hc, .inl hj⟩)), fun c hc => k.owns (h.mor c hc) (fun j hj => hp j (.inr ⟨c, hc, .inr (.inl hj)⟩)), h.rq,
  fun c hc => (h.fam c hc).kept k (fun i hi g hg => hp g (.inr ⟨c, hc, .inr (.inr (.inl ⟨i, hi, hg⟩))⟩)), fun c hc => (h.gro c hc).kept k (fun i hi g hg => hp g (.inr ⟨c, hc, .inr (.inr (.inr ⟨i, hi, hg⟩))⟩))⟩
theorem St.Ok.still (h : S.Ok w B hb f) (hb' : Below w.heap.size w w') : S.Ok w' B hb f := h.keep (Kept.ofBelow hb' (fun _ => False)) (fun _ _ => id)
theorem own_hb {t s n : Nat} {v : Value} {l : List Value} (h : w.ownsRow B t s v n l) {C : Array Value} (hk : w.heap[hb]? = some (.cells C 40 (0, 0))) (ht : t ≠ 40) : v.ownBlock ≠ some hb := fun e => by
 obtain ⟨cur, h2⟩ := row_ty h e
 rw [hk] at h2
 simp at h2
 exact ht h2.2.symm
structure Tp (B hb : Nat) (w w' : World) (S S' : St) (f : Nat → Nat → Nat → Value) : Prop where
 ok : S'.Ok w' B hb f
 k : Kept w w' (S.own hb)
 p : ∀ j, S'.own hb j → S.own hb j ∨ w.heap.size ≤ j
theorem Tp.refl (h : S.Ok w B hb f) : Tp B hb w w S S f := ⟨h, Kept.refl _ _, fun _ => .inl⟩
theorem Tp.trans {S'' : St} (h : Tp B hb w w1 S S' f) (g : Tp B hb w1 w2 S' S'' f') : Tp B hb w w2 S S'' f' :=
 ⟨g.ok, h.k.step g.k h.p, fun j hj => (g.p j hj).elim (fun hh => h.p j hh) (fun hh => .inr (Nat.le_trans h.k.size hh))⟩
theorem Tp.still (h : Tp B hb w w1 S S' f) (hb' : Below w1.heap.size w1 w2) : Tp B hb w w2 S S' f := h.trans ⟨h.ok.still hb', Kept.ofBelow hb' _, fun _ => .inl⟩
def upc {α : Type} (f : Nat → α) (c : Nat) (x : α) : Nat → α := fun d => if d = c then x else f d
theorem upc_at {α : Type} (f : Nat → α) (c : Nat) (x : α) : upc f c x c = x := by simp [upc]
theorem upc_ne {α : Type} (f : Nat → α) {c d : Nat} (x : α) (h : d ≠ c) : upc f c x d = f d := by simp [upc, h]
theorem cs_r (S : St) {c : Nat} (hc : c < 6) (x : Sl) : S.cs.setIfInBounds (2 * c) x.v = St.cs { S with r := upc S.r c x } := by
 have h1 : c = 0 ∨ c = 1 ∨ c = 2 ∨ c = 3 ∨ c = 4 ∨ c = 5 := by omega
 rcases h1 with rfl | rfl | rfl | rfl | rfl | rfl <;> rfl
theorem cs_q (S : St) {c : Nat} (hc : c < 6) (x : Sl) (u : Nat → Nat → Sl) : S.cs.setIfInBounds (2 * c + 1) x.v = St.cs { S with q := upc S.q c x, u := u } := by
 have h1 : c = 0 ∨ c = 1 ∨ c = 2 ∨ c = 3 ∨ c = 4 ∨ c = 5 := by omega
 rcases h1 with rfl | rfl | rfl | rfl | rfl | rfl <;> rfl
theorem kA {v x : Value} {i : Nat} (hk : Kept w w1 (fun j => v.ownBlock = some j)) : Kept w (w1.setCell ⟨hb, i, none⟩ x) (fun j => v.ownBlock = some j ∨ j = hb) :=
 (hk.mono fun _ _ h => .inl h).trans (kset w1 hb i x (.inr rfl))
theorem tyA {t n : Nat} {v : Value} {l : List Value} (ho : w.ownsRow B t s v n l) {C : Array Value} (hk : w.heap[hb]? = some (.cells C 40 (0, 0))) : TyP w (fun j => v.ownBlock = some j ∨ j = hb) (fun x => x = t ∨ x = 40) := fun j hj => by
 rcases hj with hj | rfl
 ·obtain ⟨cur, h1⟩ := row_ty ho hj
  exact ⟨cur, t, .inl rfl, h1⟩
 ·exact ⟨C, _, .inr rfl, hk⟩
theorem St.Ok.addR {c m : Nat} (hc : c < 6) {a' : Option Addr} {c' : Nat} {news : List Value} (h : S.Ok w B hb f) (hl : news.length = m) (hv : ∀ i, i < m → news[i]? = some (S.v c ((S.r c).n + i)).v) (ho : w1.ownsRow B (Ety c) 1 (.slice a' ((S.r c).n + m) c') ((S.r c).n + m) (rv (S.r c).n (fun i => (S.v c i).v) ++ news)) (hk : Kept w w1 (fun j => (S.r c).v.ownBlock = some j)) (he : (Value.slice a' ((S.r c).n + m) c').ownBlock = (S.r c).v.ownBlock ∨ (Value.slice a' ((S.r c).n + m) c').ownBlock = some w.heap.size) : Tp B hb w (w1.setCell ⟨hb, 2 * c, none⟩ (.slice a' ((S.r c).n + m) c')) S { S with r := upc S.r c ⟨a', (S.r c).n + m, c'⟩ } f := by
 have hb1 : w1.heap[hb]? = some (.cells S.cs 40 (0, 0)) := hk.obj h.blk (own_hb (h.row c hc) h.blk (ty_h hc).2)
 have k2 : Kept w (w1.setCell ⟨hb, 2 * c, none⟩ (.slice a' ((S.r c).n + m) c')) _ := kA (hb := hb) (i := 2 * c) (x := .slice a' ((S.r c).n + m) c') hk
 have ty := tyA (h.row c hc) h.blk
 refine ⟨⟨blk_set hb1 (cs_r S hc ⟨a', (S.r c).n + m, c'⟩), h.ge, fun d hd => ?_, fun d hd => ?_, fun d hd j hj e => ?_, fun d hd => (h.fam d hd).keptT k2 ty (by rintro (e | e); exact tye_ne hd hc e; exact (ty_h hd).1 e), fun d hd => (h.gro d hd).keptT k2 ty (by rintro (e | e); exact tye_ne hd hc e; exact (ty_h hd).1 e)⟩, k2.mono fun j _ hj => hj.elim (fun e => .inr ⟨c, hc, .inl e⟩) (fun e => .inl e), fun j hj => ?_⟩
 ·show World.ownsRow _ B (Ety d) 1 (upc S.r c ⟨a', (S.r c).n + m, c'⟩ d).v (upc S.r c ⟨a', (S.r c).n + m, c'⟩ d).n (rv (upc S.r c ⟨a', (S.r c).n + m, c'⟩ d).n fun i => (S.v d i).v)
  by_cases e : d = c
  ·subst e
   rw [upc_at]
   show World.ownsRow _ B (Ety d) 1 (Value.slice a' ((S.r d).n + m) c') ((S.r d).n + m) (rv ((S.r d).n + m) fun i => (S.v d i).v)
   rw [rv_appL (S.r d).n m (fun i => (S.v d i).v) news hl hv]
   exact own_set ho (own_hb ho hb1 (ty_h hc).2)
  ·rw [upc_ne _ _ e]
   exact ty.keep (h.row d hd) (by rintro (e2 | e2); exact ety_ne hd hc e e2; exact (ty_h hd).2 e2) k2
 ·by_cases e : d = c
  ·subst e
   exact k2.owns (h.mor d hd) (fun g hg hp => hp.elim (fun e2 => h.rq d hd g e2 hg) (fun e2 => own_hb (h.mor d hd) h.blk (ty_h hd).2 (e2 ▸ hg)))
  ·exact ty.keep (h.mor d hd) (by rintro (e2 | e2); exact ety_ne hd hc e e2; exact (ty_h hd).2 e2) k2
 ·by_cases e1 : d = c
  ·subst e1
   have hj : (upc S.r d ⟨a', (S.r d).n + m, c'⟩ d).v.ownBlock = some j := hj
   rw [upc_at] at hj
   rcases he with h1 | h1
   ·exact h.rq d hd j (h1 ▸ hj) e
   ·have e1 : some w.heap.size = some j := h1 ▸ hj
    have := (h.lt (.inr ⟨d, hd, .inr (.inl e)⟩)).1
    simp at e1
    omega
  ·have hj : (upc S.r c ⟨a', (S.r c).n + m, c'⟩ d).v.ownBlock = some j := hj
   rw [upc_ne _ _ e1] at hj
   exact h.rq d hd j hj e
 ·rcases hj with hj | ⟨d, hd, hj | hj⟩
  ·exact .inl (.inl hj)
  ·have hj : (upc S.r c ⟨a', (S.r c).n + m, c'⟩ d).v.ownBlock = some j := hj
   by_cases e1 : d = c
   ·subst e1
    rw [upc_at] at hj
    rcases he with h1 | h1
    ·exact .inl (.inr ⟨d, hd, .inl (h1 ▸ hj)⟩)
    ·have e1 : some w.heap.size = some j := h1 ▸ hj
     simp at e1
     exact .inr (by omega)
   ·rw [upc_ne _ _ e1] at hj
    exact .inl (.inr ⟨d, hd, .inl hj⟩)
  ·exact .inl (.inr ⟨d, hd, .inr hj⟩)
def updR (f : Nat → Nat → Value) (i p : Nat) (x : Value) : Nat → Nat → Value := fun i' => if i' = i then upv (f i) p x else f i'
theorem updR_at (f : Nat → Nat → Value) (i p : Nat) (x : Value) : updR f i p x i p = x := by simp [updR, upv]
theorem updR_ne (f : Nat → Nat → Value) {i p i' p' : Nat} (x : Value) (h : i' ≠ i ∨ p' ≠ p) : updR f i p x i' p' = f i' p' := by
 unfold updR upv
 by_cases e : i' = i
 ·subst e
  rw [if_pos rfl, if_neg (by omega)]
 ·rw [if_neg e]
theorem own_stored {t n c g p : Nat} {m : Nat} {f : Nat → Value} (h : w.ownsRow B t s (.slice (some ⟨g, 0, none⟩) n c) n (rv m f)) (x : Value) : (w.setCell ⟨g, p, none⟩ x).ownsRow B t s (.slice (some ⟨g, 0, none⟩) n c) n (rv m (upv f p x)) := by
 rw [← rv_set]
 exact (World.ownsRow.stored h p x).1
theorem Sl.at {x : Sl} {g : Nat} (h : x.a = some ⟨g, 0, none⟩) : x.v = .slice (some ⟨g, 0, none⟩) x.n x.c := by unfold Sl.v; rw [h]
theorem Sl.blk {x : Sl} {g : Nat} (h : x.a = some ⟨g, 0, none⟩) : x.v.ownBlock = some g := by rw [Sl.at h]; rfl
theorem Fm.set {N : Nat} {v : Nat → Sl} {f : Nat → Nat → Value} {i g : Nat} (h : Fm B T s w N v f) (hi : i < N) (hv : (v i).a = some ⟨g, 0, none⟩) (p : Nat) (x : Value) : Fm B T s (w.setCell ⟨g, p, none⟩ x) N v (updR f i p x) := by
 refine ⟨fun j hj => ?_, h.d⟩
 by_cases e : j = i
 ·subst e
  have h1 := h.o j hj
  rw [Sl.at hv] at h1 ⊢
  unfold updR
  rw [if_pos rfl]
  exact own_stored h1 x
 ·unfold updR
  rw [if_neg e]
  exact own_set (h.o j hj) (fun e2 => h.d i j hi hj (fun e3 => e e3.symm) g (Sl.blk hv) e2)
theorem tyS {N : Nat} {v : Nat → Sl} {f : Nat → Nat → Value} {i g : Nat} (h : Fm B T s w N v f) (hi : i < N) (hv : (v i).a = some ⟨g, 0, none⟩) : TyP w (fun j => j = g) (fun x => x = T) := fun j e => by
 subst e
 obtain ⟨cur, h1⟩ := row_ty (h.o i hi) (Sl.blk hv)
 exact ⟨cur, T, rfl, h1⟩
theorem St.Ok.setV {c : Nat} (hc : c < 6) (h : S.Ok w B hb f) {i g : Nat} (hi : i < S.N c) (hq : (S.q c).n = 0) (hv : (S.v c i).a = some ⟨g, 0, none⟩) (p : Nat) (x : Value) : Tp B hb w (w.setCell ⟨g, p, none⟩ x) S S (upc f c (updR (f c) i p x)) := by
 have k : Kept w (w.setCell ⟨g, p, none⟩ x) (fun j => j = g) := kset (P := fun j => j = g) w g p x rfl
 have ty := tyS (h.fam c hc) hi hv
 have hne : hb ≠ g := fun e => by
  obtain ⟨cur, t2, e2, h2⟩ := ty g rfl
  rw [← e, h.blk] at h2
  simp at h2
  exact (ty_h hc).1 (e2 ▸ h2.2.symm)
 refine ⟨⟨k.obj h.blk hne, h.ge, fun d hd => ty.keep (h.row d hd) (fun e => tye_ne hc hd e.symm) k, fun d hd => ty.keep (h.mor d hd) (fun e => tye_ne hc hd e.symm) k, h.rq, fun d hd => ?_, fun d hd => ?_⟩, k.mono fun j _ e => .inr ⟨c, hc, .inr (.inr (.inl ⟨i, hi, by rw [e]; exact Sl.blk hv⟩))⟩, fun j => .inl⟩
 ·by_cases e : d = c
  ·subst e
   rw [upc_at]
   exact (h.fam d hd).set hi hv p x
  ·rw [upc_ne _ _ e]
   exact (h.fam d hd).keptT k ty (fun e2 => ty_ne hd hc e e2)
 ·by_cases e : d = c
  ·subst e
   refine ⟨fun q hq2 => ?_, fun q hq2 => ?_, fun q r hq2 => ?_⟩ <;> (rw [hq] at hq2; exact absurd hq2 (Nat.not_lt_zero q))
  ·exact (h.gro d hd).keptT k ty (fun e2 => ty_ne hd hc e e2)
end
end
end Go.Proofs.Ytobaooebjgoaiaa.Hh
