import Derived.Test.YtdegjhkjmgimpaaV00
import Derived.ChangeKeysEq
import Derived.Laws.Tables
import Derived.Laws.AppendOwnNone
import Derived.Great.BuildSlice
import Derived.Great.Walk
import Derived.Maps.AppendAt
import Derived.Laws.OwnMore
import Derived.Deep.DeepCutAuto
namespace Go.Proofs.Ytdegjhkjmgimpaa.Ms
open Go.RowKit Go.Maps Mb
set_option linter.unusedVariables false
set_option linter.unusedSimpArgs false
set_option maxRecDepth 100000
section
variable {w w' W w0 w1 w2 w3 : World} {B K m : Nat}
theorem row_ty {w : World} {B t s n : Nat} {v : Value} {l : List Value} (h : w.ownsRow B t s v n l) {j : Nat} (hj : v.ownBlock = some j) : ∃ cur, w.heap[j]? = some (.cells cur t (0, 0)) := by
  rcases h.2 with ⟨h1, _⟩ | ⟨g, cap, cur, hv, _, hg, _⟩
  · rw [h1] at hj; simp [Value.ownBlock] at hj
  · rw [hv] at hj
    simp [Value.ownBlock] at hj
    subst hj
    exact ⟨cur, hg⟩
theorem own_ty {B' t t' s s' n n' : Nat} {v v' : Value} {l l' : List Value} (h : w.ownsRow B t s v n l) (h' : w.ownsRow B' t' s' v' n' l') (ht : t ≠ t') {j : Nat} (hj : v.ownBlock = some j) : v'.ownBlock ≠ some j := by
  intro e
  obtain ⟨c1, h1⟩ := row_ty h hj
  obtain ⟨c2, h2⟩ := row_ty h' e
  rw [h1] at h2
  simp at h2
  exact ht h2.2
theorem own_set {t s n : Nat} {v u : Value} {l : List Value} {k i : Nat} (h : w.ownsRow B t s v n l) (hk : v.ownBlock ≠ some k) : (w.setCell ⟨k, i, none⟩ u).ownsRow B t s v n l :=
  (kset (P := fun j => j = k) w k i u rfl).owns h (fun q hq e => hk (by rw [hq, e]))
theorem rowc {t s n : Nat} {v : Value} {l : List Value} (h : w.ownsRow B t s v n l) {j : Nat} (hj : v.ownBlock = some j) : B ≤ j ∧ ∃ cur, w.heap[j]? = some (.cells cur t (0, 0)) := ⟨(World.ownsRow.lt h j hj).1, row_ty h hj⟩
theorem own_sh {t s n : Nat} {v : Value} {l : List Value} (h : w.ownsRow B t s v n l) : ∃ a c, v = .slice a n c := by
  rcases h.2 with ⟨e, h0⟩ | ⟨g, cap, cur, hv, _⟩
  · exact ⟨none, 0, by rw [e, h0]⟩
  · exact ⟨_, _, hv⟩
def rv (n : Nat) (f : Nat → Value) : List Value := (List.range n).map f
theorem rv_len (n : Nat) (f : Nat → Value) : (rv n f).length = n := by simp [rv]
theorem rv_get {n : Nat} (f : Nat → Value) {i : Nat} (h : i < n) : (rv n f)[i]? = some (f i) := by simp [rv, h]
theorem rv_congr {n : Nat} {f g : Nat → Value} (h : ∀ i, i < n → f i = g i) : rv n f = rv n g := by
  apply List.ext_getElem
  · simp [rv]
  · intro i h1 h2
    simp [rv] at h1 ⊢
    exact h i h1
def upv (f : Nat → Value) (i : Nat) (v : Value) : Nat → Value := fun j => if j = i then v else f j
theorem rv_set {n : Nat} (f : Nat → Value) (i : Nat) (v : Value) : (rv n f).set i v = rv n (upv f i v) := by
  apply List.ext_getElem
  · simp [rv]
  · intro j h1 h2
    simp [rv] at h1 h2 ⊢
    rw [List.getElem_set]
    by_cases e : i = j
    · subst e; simp [upv]
    · simp [e, upv, show ¬ j = i from fun h => e h.symm]
theorem rv_one {n : Nat} {f : Nat → Value} (h : ∀ i, i < n → (f i).oneCell' = true) : ∀ u ∈ rv n f, u.oneCell' = true := by
  intro u hu
  obtain ⟨i, hi, rfl⟩ := List.mem_map.1 hu
  exact h i (List.mem_range.1 hi)
theorem size_of {t : TypeId} {n : Nat} (h : (Try.prog.info? t).map (·.size) = some n) : (sizeOf t).run Try.prog w = .ok n w := by
  cases hq : Try.prog.info? t with
  | none => simp [hq] at h
  | some i => simp [hq] at h; simp [sizeOf, typeInfo, hq, h]
theorem run_allocZ {t : TypeId} {Z : Array Value} (hz : (Try.prog.info? t).map (·.zero) = some (some (.agg Z))) : (Instr.alloc t true (.tuple #[])).run Try.prog w = .ok (.pointer (some ⟨w.heap.size, 0, none⟩)) (w.alloc (.cells Z t)) := by
  cases hi : Try.prog.info? t with
  | none => rw [hi] at hz; cases hz
  | some i =>
    rw [hi] at hz
    simp only [Option.map_some, Option.some.injEq] at hz
    simp [Instr.alloc, zeroValue, typeInfo, hi, hz, go_sem, newVar, newRow, Value.cells]
theorem wl_allocZ {ops : Array Oper} {rest : List Oper} {o : Oper} {a : Act} {Q : Exit → Act → World → Prop} {Z : Array Value} (hgd : o.guard = none) (t : TypeId) (ho : o.op = .alloc t) (hz : (Try.prog.info? t).map (·.zero) = some (some (.agg Z)))
    (h : ∀ W : World, W.heap[w.heap.size]? = some (.cells Z t (0, 0)) → Below w.heap.size w W → w.heap.size < W.heap.size → wpList Try.prog ops Q rest (a.put o.dst (.pointer (some ⟨w.heap.size, 0, none⟩))) W) : wpList Try.prog ops Q (o :: rest) a w :=
  wpList_plain hgd fun K hK => by
    unfold Oper.wp execOp
    simp only [ho, Sem.run_bind, run_allocZ hz, Result.andThen_ok, Sem.run_pure]
    exact hK _ _ (h _ (heap_alloc_new w _) ((Below.refl _ _).alloc (Nat.le_refl _) _) (by simp))
theorem wl_buildZ {ops : Array Oper} {rest : List Oper} {o : Oper} {a : Act} {Q : Exit → Act → World → Prop} {cs : Array Value} (hgd : o.guard = none) (t : TypeId) (parts : Array (Nat × Operand)) (ho : o.op = .build t parts) (hf : Try.prog.built t (parts.map fun (i, x) => (i, a.eval x)).toList = some cs)
    (h : wpList Try.prog ops Q rest (a.put o.dst (.agg cs)) w) : wpList Try.prog ops Q (o :: rest) a w :=
  wpList_build hgd t parts ho (by rw [hf]; rfl) (by rw [hf]; exact h)
theorem built_eq {t : TypeId} {l l' : List (Nat × Value)} {c : Array Value} (e : l = l') (h : Try.prog.built t l' = some c) : Try.prog.built t l = some c := e ▸ h
theorem wl_storeZ {ops : Array Oper} {rest : List Oper} {o : Oper} {a : Act} {Q : Exit → Act → World → Prop} (hgd : o.guard = none) (ty : TypeId) (x y : Operand) (ho : o.op = .store ty x y) {g : Nat} {L : List Value} {t : TypeId} {old : Array Value} (hx : a.eval x = .pointer (some ⟨g, 0, none⟩)) (hy : a.eval y = .agg L.toArray) (hg : w.heap[g]? = some (.cells old t (0, 0))) (hi : (Try.prog.info? ty).map (·.size) = some L.length) (hold : old.size = L.length) (h1 : ∀ u ∈ L, u.oneCell' = true)
    (h : ∀ W : World, W.heap[g]? = some (.cells L.toArray t (0, 0)) → Kept w W (fun j => j = g) → wpList Try.prog ops Q rest (a.put o.dst undef) W) : wpList Try.prog ops Q (o :: rest) a w :=
  Ln.wl_storeL hgd ty x y ho hx hy (Ln.blk_there hg hold) hi h1 (h _ (Ln.sets_whole hg hold) (ksets (P := fun j => j = g) rfl _ _ _))
section
variable {ops : Array Oper} {rest : List Oper} {o : Oper} {a : Act} {K : Act → World → Prop} {Q : Exit → Act → World → Prop} {E EE : Prop}
theorem wl_stS (hgd : o.guard = none) (ty : TypeId) (x y : Operand) (ho : o.op = .store ty x y) {g p t : Nat} {C : Array Value} {sa : Option Addr} {sn sc : Nat} (hx : a.eval x = .pointer (some ⟨g, p, none⟩)) (hy : a.eval y = .slice sa sn sc) (hg : w.heap[g]? = some (.cells C t (0, 0))) (hp : p < C.size) (hz : (Try.prog.info? ty).map (·.size) = some 1) (hd : o.dst = none)
    (h : wpList Try.prog ops Q rest a (w.setCell ⟨g, p, none⟩ (.slice sa sn sc))) : wpList Try.prog ops Q (o :: rest) a w :=
  wpList_plain hgd fun K hK => by
    have q : w.cell? ⟨g, p, none⟩ = some C[p] := by rw [blk_cell hg p]; exact Array.getElem?_eq_getElem hp
    have zz : w.frozen? ⟨g, p, none⟩ = false := frozen_of_row w _ _ _ _ hg
    have hs := size_of (w := w) hz
    unfold Oper.wp execOp
    simp only [ho, hx, hy]
    go_simp
    have hk := hK a _ h
    rw [hd] at *
    exact hk
theorem wp_bsl (t e : TypeId) (len : Nat) (parts : Array (Nat × Operand)) (ho : o.op = .buildSlice t len parts) (hu : Try.prog.underlying t = some (.slice e)) (cells : Array Value)
    (hf : Try.prog.builtSlice e len (parts.map fun (i, x) => (i, a.eval x)).toList = some cells)
    (h : K (a.put o.dst (.slice (some ⟨w.heap.size, 0, none⟩) len len)) (w.alloc (.cells cells e))) : Oper.wp Try.prog o a w K Q := by
  unfold Program.builtSlice at hf
  cases hie : Try.prog.info? e with
  | none => simp [hie] at hf
  | some ie =>
    simp only [hie] at hf
    cases hz : ie.zero with
    | none => simp [hz] at hf
    | some z =>
      simp only [hz] at hf
      by_cases hc : len * ie.size > 2 ^ 24 ∨ len * ie.size = 0
      · simp [hc] at hf
      · rw [if_neg hc] at hf
        exact wp_buildSlice t e len parts ho cells ie z hu hie hz (fun h' => hc (Or.inl h')) (fun h' => hc (Or.inr h')) hf h
theorem wl_bsl (hgd : o.guard = none) (t e : TypeId) (len : Nat) (parts : Array (Nat × Operand)) (ho : o.op = .buildSlice t len parts) (hu : Try.prog.underlying t = some (.slice e)) (cells : Array Value)
    (hf : Try.prog.builtSlice e len (parts.map fun (i, x) => (i, a.eval x)).toList = some cells)
    (h : ∀ V : World, V.heap[w.heap.size]? = some (.cells cells e (0, 0)) → Below w.heap.size w V → w.heap.size < V.heap.size → wpList Try.prog ops Q rest (a.put o.dst (.slice (some ⟨w.heap.size, 0, none⟩) len len)) V) : wpList Try.prog ops Q (o :: rest) a w :=
  wpList_plain hgd fun K hK => wp_bsl t e len parts ho hu cells hf (hK _ _ (h _ (heap_alloc_new w _) ((Below.refl _ _).alloc (Nat.le_refl _) _) (by simp)))
theorem bsl_eq {e : TypeId} {n : Nat} {l l' : List (Nat × Value)} {c : Array Value} (e1 : l = l') (h : Try.prog.builtSlice e n l' = some c) : Try.prog.builtSlice e n l = some c := e1 ▸ h
theorem app_g (hgd : o.guard = none) (s x : Operand) (t : TypeId)
    (ho : o.op = .call { callee := .builtin .append, args := #[s, x], argTypes := #[t, t] })
    (base : Nat) (e : TypeId) (i : TypeInfo) (z : Value) (size bytes : Nat) (ht : Try.prog.underlying t = some (.slice e)) (hi : Try.prog.info? e = some i) (hz : i.zero = some z)
    (hsize : i.size = size) (hby : i.bytes = bytes) (hzs : z.cells.size = size) (hsz : 0 < size)
    (v : Value) (n : Nat) (xs : List Value) (hs : a.eval s = v) (hown : w.ownsRow base e size v n xs)
    (ao : Option Addr) (m c : Nat) (news : List Value) (hx : a.eval x = .slice ao m c) (hnone : ao = none → m = 0 ∧ c = 0) (hl : news.length = m * size) (hnews : ∀ ad, ao = some ad → ∀ j u, news[j]? = some u → w.cell? (ad.add j) = some u) (h1 : ∀ u ∈ news, u.oneCell' = true)
    (h63 : n + m ≤ maxLen) (hbytes : (n + m) * bytes ≤ 140737488355328) (hbase : base ≤ w.heap.size)
    (h : ∀ v' w', Hid (w'.ownsRow base e size v' (n + m) (xs ++ news)) → Hid (Kept w w' (fun k => v.ownBlock = some k)) → Hid (v'.ownBlock = v.ownBlock ∨ v'.ownBlock = some w.heap.size) → wpList Try.prog ops Q rest (a.put o.dst v') w') :
    wpList Try.prog ops Q (o :: rest) a w := by
  cases ao with
  | some ad =>
    refine wpList_append_own_at w hgd s x t ho base e i z size bytes ht hi hz hsize hby hzs hsz v n xs hs hown ad m c news hx hl (hnews ad rfl) h1 h63 hbytes hbase ?_
    intro v' w' h2 h3 _ h5
    exact h v' w' h2 ((Kept.ofGrown h3).mono fun k _ hk => hk.symm) h5
  | none =>
    obtain ⟨rfl, rfl⟩ := hnone rfl
    obtain rfl : news = [] := List.eq_nil_of_length_eq_zero (by rw [hl]; omega)
    exact wpList_append_own_none hgd s x t ho base e i size ht hi v n xs hs hown hx (h v w (by show World.ownsRow _ _ _ _ _ _ _; simpa using hown) (Kept.refl _ _) (.inl rfl))
end
end
end Go.Proofs.Ytdegjhkjmgimpaa.Ms
namespace Go.Proofs.Ytdegjhkjmgimpaa.Ms
open Go.RowKit Go.Maps Mb
set_option linter.unusedVariables false
set_option linter.unusedSimpArgs false
set_option maxRecDepth 100000
structure Sl where
  a : Option Addr
  n : Nat
  c : Nat
def Sl.v (s : Sl) : Value := .slice s.a s.n s.c
def Gb (i j : Nat) : Value := .int .i64 (100 + (i : Int))
def mcs (i k : Nat) : List Value := [.int .i64 (1000 + (i : Int)), .int .i64 (k : Int), .int .i64 (-9)]
def Gf (i j : Nat) : Value := (mcs i (j / 3)).getD (j % 3) undef
section
variable {w w' w1 w2 w3 : World} {B T s : Nat}
theorem rv_app (n : Nat) (f : Nat → Value) : rv (n + 1) f = rv n f ++ [f n] := by simp [rv, List.range_succ]
theorem rv_appL (n m : Nat) (f : Nat → Value) (L : List Value) (hl : L.length = m) (h : ∀ i, i < m → L[i]? = some (f (n + i))) : rv (n + m) f = rv n f ++ L := by
  apply List.ext_getElem?
  intro i
  by_cases h1 : i < n
  · rw [List.getElem?_append_left (by rw [rv_len]; exact h1), rv_get f h1, rv_get f (by omega)]
  · rw [List.getElem?_append_right (by rw [rv_len]; omega), rv_len]
    by_cases h2 : i < n + m
    · rw [rv_get f h2, h (i - n) (by omega), show n + (i - n) = i by omega]
    · rw [List.getElem?_eq_none (by rw [rv_len]; omega), List.getElem?_eq_none (by omega)]
theorem rv_take (n m : Nat) (f : Nat → Value) (h : n ≤ m) : (rv m f).take n = rv n f := by
  apply List.ext_getElem?
  intro i
  rw [List.getElem?_take]
  by_cases h1 : i < n
  · rw [if_pos h1, rv_get f h1, rv_get f (by omega)]
  · rw [if_neg h1, List.getElem?_eq_none (by rw [rv_len]; omega)]
def TyP (w : World) (P : Nat → Prop) (Q : Nat → Prop) : Prop := ∀ j, P j → ∃ cur t, Q t ∧ w.heap[j]? = some (.cells cur t (0, 0))
theorem TyP.off {P Q : Nat → Prop} (h : TyP w P Q) {t n : Nat} {v : Value} {l : List Value} (ho : w.ownsRow B t s v n l) (hq : ¬ Q t) : ∀ g, v.ownBlock = some g → ¬ P g := fun g hg hp => by
  obtain ⟨cur, h1⟩ := row_ty ho hg
  obtain ⟨c2, t2, h2, h3⟩ := h g hp
  rw [h1] at h3
  simp at h3
  exact hq (h3.2 ▸ h2)
theorem TyP.own {t n : Nat} {v : Value} {l : List Value} (ho : w.ownsRow B t s v n l) : TyP w (fun j => v.ownBlock = some j) (fun x => x = t) := fun j hj => by
  obtain ⟨cur, h1⟩ := row_ty ho hj
  exact ⟨cur, t, rfl, h1⟩
theorem TyP.keep {P Q : Nat → Prop} (h : TyP w P Q) {t n : Nat} {v : Value} {l : List Value} (ho : w.ownsRow B t s v n l) (hq : ¬ Q t) (k : Kept w w' P) : w'.ownsRow B t s v n l := k.owns ho (h.off ho hq)
structure Fm (B T s : Nat) (w : World) (N : Nat) (v : Nat → Sl) (f : Nat → Nat → Value) : Prop where
  o : ∀ i, i < N → w.ownsRow B T s (v i).v (v i).n (rv ((v i).n * s) (f i))
  d : ∀ i j, i < N → j < N → i ≠ j → ∀ g, (v i).v.ownBlock = some g → (v j).v.ownBlock ≠ some g
structure Gr (B T s : Nat) (w : World) (N : Nat) (v : Nat → Sl) (K : Nat) (u : Nat → Sl) (G : Nat → Nat → Value) : Prop where
  n : ∀ i, i < K → (u i).n = (v i).n + 64
  o : ∀ i, i < K → w.ownsRow B T s (u i).v (u i).n (rv ((u i).n * s) (G i))
  d : ∀ i j, i < K → j < N → i ≠ j → ∀ g, (u i).v.ownBlock = some g → (v j).v.ownBlock ≠ some g
section
variable {N K : Nat} {v u : Nat → Sl} {f G : Nat → Nat → Value} {P Q : Nat → Prop}
theorem Fm.kept (h : Fm B T s w N v f) (k : Kept w w' P) (hp : ∀ i, i < N → ∀ g, (v i).v.ownBlock = some g → ¬ P g) : Fm B T s w' N v f := ⟨fun i hi => k.owns (h.o i hi) (hp i hi), h.d⟩
theorem Gr.kept (h : Gr B T s w N v K u G) (k : Kept w w' P) (hp : ∀ i, i < K → ∀ g, (u i).v.ownBlock = some g → ¬ P g) : Gr B T s w' N v K u G := ⟨h.n, fun i hi => k.owns (h.o i hi) (hp i hi), h.d⟩
theorem Fm.keptT (h : Fm B T s w N v f) (k : Kept w w' P) (ht : TyP w P Q) (hq : ¬ Q T) : Fm B T s w' N v f := h.kept k fun i hi => ht.off (h.o i hi) hq
theorem Gr.keptT (h : Gr B T s w N v K u G) (k : Kept w w' P) (ht : TyP w P Q) (hq : ¬ Q T) : Gr B T s w' N v K u G := h.kept k fun i hi => ht.off (h.o i hi) hq
theorem Fm.still (h : Fm B T s w N v f) (hb : Below w.heap.size w w') : Fm B T s w' N v f := h.kept (Kept.ofBelow hb (fun _ => False)) (fun _ _ _ _ => id)
theorem Gr.still (h : Gr B T s w N v K u G) (hb : Below w.heap.size w w') : Gr B T s w' N v K u G := h.kept (Kept.ofBelow hb (fun _ => False)) (fun _ _ _ _ => id)
theorem Fm.congr {f' : Nat → Nat → Value} (h : Fm B T s w N v f) (e : ∀ i, i < N → ∀ j, j < (v i).n * s → f' i j = f i j) : Fm B T s w N v f' := ⟨fun i hi => by rw [rv_congr (e i hi)]; exact h.o i hi, h.d⟩
theorem Fm.lt (h : Fm B T s w N v f) {i : Nat} (hi : i < N) {g : Nat} (hg : (v i).v.ownBlock = some g) : g < w.heap.size ∧ B ≤ g := by
  obtain ⟨hb, cur, hc⟩ := rowc (h.o i hi) hg
  exact ⟨(Array.getElem?_eq_some_iff.1 hc).1, hb⟩
theorem Gr.lt (h : Gr B T s w N v K u G) {i : Nat} (hi : i < K) {g : Nat} (hg : (u i).v.ownBlock = some g) : g < w.heap.size ∧ B ≤ g := by
  obtain ⟨hb, cur, hc⟩ := rowc (h.o i hi) hg
  exact ⟨(Array.getElem?_eq_some_iff.1 hc).1, hb⟩
end
structure St where
  b : Sl
  m : Sl
  o : Sl
  l : Sl
  N : Nat
  M : Nat
  vb : Nat → Sl
  vm : Nat → Sl
  vo : Nat → Sl
  vl : Nat → Sl
structure St.Ok (S : St) (w : World) (B sb : Nat) (fb fo : Nat → Nat → Value) : Prop where
  blk : w.heap[sb]? = some (.cells #[S.b.v, S.m.v, S.o.v, S.l.v] 39 (0, 0))
  ge : B ≤ sb
  rb : w.ownsRow B 29 1 S.b.v S.b.n (rv S.b.n fun i => (S.vb i).v)
  rm : w.ownsRow B 29 1 S.m.v S.m.n (rv S.m.n fun i => (S.vm i).v)
  ro : w.ownsRow B 40 1 S.o.v S.o.n (rv S.o.n fun i => (S.vo i).v)
  rl : w.ownsRow B 40 1 S.l.v S.l.n (rv S.l.n fun i => (S.vl i).v)
  bm : ∀ j, S.b.v.ownBlock = some j → S.m.v.ownBlock ≠ some j
  ol : ∀ j, S.o.v.ownBlock = some j → S.l.v.ownBlock ≠ some j
  fb : Fm B 3 1 w S.N S.vb fb
  fo : Fm B 79 3 w S.M S.vo fo
  gm : Gr B 3 1 w S.N S.vb S.m.n S.vm Gb
  gl : Gr B 79 3 w S.M S.vo S.l.n S.vl Gf
def St.own (S : St) (sb j : Nat) : Prop := j = sb ∨ S.b.v.ownBlock = some j ∨ S.m.v.ownBlock = some j ∨ S.o.v.ownBlock = some j ∨ S.l.v.ownBlock = some j ∨ (∃ i, i < S.N ∧ (S.vb i).v.ownBlock = some j) ∨ (∃ i, i < S.M ∧ (S.vo i).v.ownBlock = some j) ∨ (∃ i, i < S.m.n ∧ (S.vm i).v.ownBlock = some j) ∨ (∃ i, i < S.l.n ∧ (S.vl i).v.ownBlock = some j)
section
variable {S S' : St} {sb : Nat} {fb fo : Nat → Nat → Value} {P Q : Nat → Prop}
theorem St.Ok.lt (h : S.Ok w B sb fb fo) {j : Nat} (hj : S.own sb j) : j < w.heap.size ∧ B ≤ j := by
  have aux : ∀ {t s n : Nat} {v : Value} {l : List Value}, w.ownsRow B t s v n l → v.ownBlock = some j → j < w.heap.size ∧ B ≤ j := fun ho hg => by
    obtain ⟨h1, c, h2⟩ := rowc ho hg; exact ⟨lt_heap h2, h1⟩
  rcases hj with rfl | hj | hj | hj | hj | ⟨i, hi, hj⟩ | ⟨i, hi, hj⟩ | ⟨i, hi, hj⟩ | ⟨i, hi, hj⟩
  · exact ⟨lt_heap h.blk, h.ge⟩
  · exact aux h.rb hj
  · exact aux h.rm hj
  · exact aux h.ro hj
  · exact aux h.rl hj
  · exact aux (h.fb.o i hi) hj
  · exact aux (h.fo.o i hi) hj
  · exact aux (h.gm.o i hi) hj
  · exact aux (h.gl.o i hi) hj
theorem St.Ok.keep (h : S.Ok w B sb fb fo) (k : Kept w w' P) (hp : ∀ j, S.own sb j → ¬ P j) : S.Ok w' B sb fb fo :=
  ⟨k.obj h.blk (hp _ (.inl rfl)), h.ge, k.owns h.rb (fun j hj => hp j (.inr (.inl hj))), k.owns h.rm (fun j hj => hp j (.inr (.inr (.inl hj)))), k.owns h.ro (fun j hj => hp j (.inr (.inr (.inr (.inl hj))))), k.owns h.rl (fun j hj => hp j (.inr (.inr (.inr (.inr (.inl hj)))))), h.bm, h.ol,
   h.fb.kept k (fun i hi g hg => hp g (.inr (.inr (.inr (.inr (.inr (.inl ⟨i, hi, hg⟩))))))), h.fo.kept k (fun i hi g hg => hp g (.inr (.inr (.inr (.inr (.inr (.inr (.inl ⟨i, hi, hg⟩)))))))), h.gm.kept k (fun i hi g hg => hp g (.inr (.inr (.inr (.inr (.inr (.inr (.inr (.inl ⟨i, hi, hg⟩))))))))), h.gl.kept k (fun i hi g hg => hp g (.inr (.inr (.inr (.inr (.inr (.inr (.inr (.inr ⟨i, hi, hg⟩)))))))))⟩
theorem St.Ok.still (h : S.Ok w B sb fb fo) (hb : Below w.heap.size w w') : S.Ok w' B sb fb fo := h.keep (Kept.ofBelow hb (fun _ => False)) (fun _ _ => id)
theorem own_sb {t n : Nat} {v : Value} {l : List Value} (h : w.ownsRow B t s v n l) {C : Array Value} (hb : w.heap[sb]? = some (.cells C 39 (0, 0))) (ht : t ≠ 39) : v.ownBlock ≠ some sb := fun e => by
  obtain ⟨cur, h2⟩ := row_ty h e
  rw [hb] at h2
  simp at h2
  exact ht h2.2.symm
structure Tp (B sb : Nat) (w w' : World) (S S' : St) (fb fo : Nat → Nat → Value) : Prop where
  ok : S'.Ok w' B sb fb fo
  k : Kept w w' (S.own sb)
  p : ∀ j, S'.own sb j → S.own sb j ∨ w.heap.size ≤ j
theorem Tp.refl (h : S.Ok w B sb fb fo) : Tp B sb w w S S fb fo := ⟨h, Kept.refl _ _, fun _ => .inl⟩
theorem Tp.trans {S'' : St} {f1 f2 f3 f4 : Nat → Nat → Value} (h : Tp B sb w w1 S S' f1 f2) (g : Tp B sb w1 w2 S' S'' f3 f4) : Tp B sb w w2 S S'' f3 f4 :=
  ⟨g.ok, h.k.step g.k h.p, fun j hj => (g.p j hj).elim (fun hh => h.p j hh) (fun hh => .inr (Nat.le_trans h.k.size hh))⟩
theorem Tp.still (h : Tp B sb w w1 S S' fb fo) (hb : Below w1.heap.size w1 w2) : Tp B sb w w2 S S' fb fo := h.trans ⟨h.ok.still hb, Kept.ofBelow hb _, fun _ => .inl⟩
theorem tyA {t n : Nat} {v : Value} {l : List Value} (ho : w.ownsRow B t s v n l) {C : Array Value} (hb : w.heap[sb]? = some (.cells C 39 (0, 0))) : TyP w (fun j => v.ownBlock = some j ∨ j = sb) (fun x => x = t ∨ x = 39) := fun j hj => by
  rcases hj with hj | rfl
  · obtain ⟨cur, h1⟩ := row_ty ho hj
    exact ⟨cur, t, .inl rfl, h1⟩
  · exact ⟨C, _, .inr rfl, hb⟩
theorem kA {v x : Value} {i : Nat} (hk : Kept w w1 (fun j => v.ownBlock = some j)) : Kept w (w1.setCell ⟨sb, i, none⟩ x) (fun j => v.ownBlock = some j ∨ j = sb) :=
  (hk.mono fun _ _ h => .inl h).trans (kset w1 sb i x (.inr rfl))
theorem St.Ok.appB {a' : Option Addr} {c' m : Nat} {news : List Value} (h : S.Ok w B sb fb fo) (hl : news.length = m) (hv : ∀ i, i < m → news[i]? = some (S.vb (S.b.n + i)).v) (ho : w1.ownsRow B 29 1 (.slice a' (S.b.n + m) c') (S.b.n + m) (rv S.b.n (fun i => (S.vb i).v) ++ news)) (hk : Kept w w1 (fun j => S.b.v.ownBlock = some j)) (he : (Value.slice a' (S.b.n + m) c').ownBlock = S.b.v.ownBlock ∨ (Value.slice a' (S.b.n + m) c').ownBlock = some w.heap.size) : Tp B sb w (w1.setCell ⟨sb, 0, none⟩ (.slice a' (S.b.n + m) c')) S { S with b := ⟨a', S.b.n + m, c'⟩ } fb fo := by
  have hb1 : w1.heap[sb]? = some (.cells #[S.b.v, S.m.v, S.o.v, S.l.v] 39 (0, 0)) := hk.obj h.blk (own_sb h.rb h.blk (by decide))
  have k2 : Kept w (w1.setCell ⟨sb, 0, none⟩ (.slice a' (S.b.n + m) c')) _ := kA hk
  have ty := tyA h.rb h.blk
  refine ⟨⟨blk_set hb1 rfl, h.ge, by show World.ownsRow _ _ _ _ _ _ (rv (S.b.n + m) _); rw [rv_appL S.b.n m (fun i => (S.vb i).v) news hl hv]; exact own_set ho (own_sb ho hb1 (by decide)), k2.owns h.rm (fun g hg hp => ?_), ty.keep h.ro (by decide) k2, ty.keep h.rl (by decide) k2, fun j hj e => ?_, h.ol, h.fb.keptT k2 ty (by decide), h.fo.keptT k2 ty (by decide), h.gm.keptT k2 ty (by decide), h.gl.keptT k2 ty (by decide)⟩, k2.mono fun j _ hj => hj.elim (fun e => .inr (.inl e)) (fun e => .inl e), fun j hj => ?_⟩
  · rcases hp with hp | rfl
    · exact h.bm g hp hg
    · exact own_sb h.rm h.blk (by decide) hg
  · rcases he with h1 | h1
    · exact h.bm j (h1 ▸ hj) e
    · have e1 : some w.heap.size = some j := h1 ▸ hj
      have := (h.lt (.inr (.inr (.inl e)))).1
      simp at e1
      omega
  · rcases hj with hj | hj | hj | hj | hj | hj | hj | hj | hj
    · exact .inl (.inl hj)
    · rcases he with h1 | h1
      · exact .inl (.inr (.inl (h1 ▸ hj)))
      · have e1 : some w.heap.size = some j := h1 ▸ hj
        simp at e1
        exact .inr (by omega)
    · exact .inl (.inr (.inr (.inl hj)))
    · exact .inl (.inr (.inr (.inr (.inl hj))))
    · exact .inl (.inr (.inr (.inr (.inr (.inl hj)))))
    · exact .inl (.inr (.inr (.inr (.inr (.inr (.inl hj))))))
    · exact .inl (.inr (.inr (.inr (.inr (.inr (.inr (.inl hj)))))))
    · exact .inl (.inr (.inr (.inr (.inr (.inr (.inr (.inr (.inl hj))))))))
    · exact .inl (.inr (.inr (.inr (.inr (.inr (.inr (.inr (.inr hj))))))))
theorem St.Ok.appO {a' : Option Addr} {c' m : Nat} {news : List Value} (h : S.Ok w B sb fb fo) (hl : news.length = m) (hv : ∀ i, i < m → news[i]? = some (S.vo (S.o.n + i)).v) (ho : w1.ownsRow B 40 1 (.slice a' (S.o.n + m) c') (S.o.n + m) (rv S.o.n (fun i => (S.vo i).v) ++ news)) (hk : Kept w w1 (fun j => S.o.v.ownBlock = some j)) (he : (Value.slice a' (S.o.n + m) c').ownBlock = S.o.v.ownBlock ∨ (Value.slice a' (S.o.n + m) c').ownBlock = some w.heap.size) : Tp B sb w (w1.setCell ⟨sb, 2, none⟩ (.slice a' (S.o.n + m) c')) S { S with o := ⟨a', S.o.n + m, c'⟩ } fb fo := by
  have hb1 : w1.heap[sb]? = some (.cells #[S.b.v, S.m.v, S.o.v, S.l.v] 39 (0, 0)) := hk.obj h.blk (own_sb h.ro h.blk (by decide))
  have k2 : Kept w (w1.setCell ⟨sb, 2, none⟩ (.slice a' (S.o.n + m) c')) _ := kA hk
  have ty := tyA h.ro h.blk
  refine ⟨⟨blk_set hb1 rfl, h.ge, ty.keep h.rb (by decide) k2, ty.keep h.rm (by decide) k2, by show World.ownsRow _ _ _ _ _ _ (rv (S.o.n + m) _); rw [rv_appL S.o.n m (fun i => (S.vo i).v) news hl hv]; exact own_set ho (own_sb ho hb1 (by decide)), k2.owns h.rl (fun g hg hp => ?_), h.bm, fun j hj e => ?_, h.fb.keptT k2 ty (by decide), h.fo.keptT k2 ty (by decide), h.gm.keptT k2 ty (by decide), h.gl.keptT k2 ty (by decide)⟩, k2.mono fun j _ hj => hj.elim (fun e => .inr (.inr (.inr (.inl e)))) (fun e => .inl e), fun j hj => ?_⟩
  · rcases hp with hp | rfl
    · exact h.ol g hp hg
    · exact own_sb h.rl h.blk (by decide) hg
  · rcases he with h1 | h1
    · exact h.ol j (h1 ▸ hj) e
    · have e1 : some w.heap.size = some j := h1 ▸ hj
      have := (h.lt (.inr (.inr (.inr (.inr (.inl e)))))).1
      simp at e1
      omega
  · rcases hj with hj | hj | hj | hj | hj | hj | hj | hj | hj
    · exact .inl (.inl hj)
    · exact .inl (.inr (.inl hj))
    · exact .inl (.inr (.inr (.inl hj)))
    · rcases he with h1 | h1
      · exact .inl (.inr (.inr (.inr (.inl (h1 ▸ hj)))))
      · have e1 : some w.heap.size = some j := h1 ▸ hj
        simp at e1
        exact .inr (by omega)
    · exact .inl (.inr (.inr (.inr (.inr (.inl hj)))))
    · exact .inl (.inr (.inr (.inr (.inr (.inr (.inl hj))))))
    · exact .inl (.inr (.inr (.inr (.inr (.inr (.inr (.inl hj)))))))
    · exact .inl (.inr (.inr (.inr (.inr (.inr (.inr (.inr (.inl hj))))))))
    · exact .inl (.inr (.inr (.inr (.inr (.inr (.inr (.inr (.inr hj))))))))
def updS (f : Nat → Sl) (i : Nat) (x : Sl) : Nat → Sl := fun j => if j = i then x else f j
theorem updS_same (f : Nat → Sl) (i : Nat) (x : Sl) : updS f i x i = x := by simp [updS]
theorem updS_ne (f : Nat → Sl) {i j : Nat} (x : Sl) (h : j ≠ i) : updS f i x j = f j := by simp [updS, h]
theorem rv_upd (n : Nat) (f : Nat → Sl) (x : Sl) : rv (n + 1) (fun i => (updS f n x i).v) = rv n (fun i => (f i).v) ++ [x.v] := by
  rw [rv_app, updS_same]
  congr 1
  exact rv_congr fun i hi => by rw [updS_ne f x (by omega)]
theorem Gr.snoc {N K : Nat} {v u : Nat → Sl} {G : Nat → Nat → Value} (h : Gr B T s w N v K u G) {x : Sl} (hn : x.n = (v K).n + 64) (ho : w.ownsRow B T s x.v x.n (rv (x.n * s) (G K))) (hd : ∀ j, j < N → K ≠ j → ∀ g, x.v.ownBlock = some g → (v j).v.ownBlock ≠ some g) : Gr B T s w N v (K + 1) (updS u K x) G := by
  refine ⟨fun i hi => ?_, fun i hi => ?_, fun i j hi hj hne g hg => ?_⟩ <;> by_cases e : i = K
  · subst e; rw [updS_same]; exact hn
  · rw [updS_ne u x e]; exact h.n i (by omega)
  · subst e; rw [updS_same]; exact ho
  · rw [updS_ne u x e]; exact h.o i (by omega)
  · subst e; rw [updS_same] at hg; exact hd j hj hne g hg
  · rw [updS_ne u x e] at hg; exact h.d i j (by omega) hj hne g hg
structure Gw (B T s : Nat) (w : World) (N : Nat) (v : Nat → Sl) (K : Nat) (u : Nat → Sl) (G : Nat → Nat → Value) (k : Nat) (x : Sl) : Prop where
  n : x.n = (v K).n + k
  o : w.ownsRow B T s x.v x.n (rv (x.n * s) (G K))
  d : ∀ j, j < N → K ≠ j → ∀ g, x.v.ownBlock = some g → (v j).v.ownBlock ≠ some g
  u : ∀ j, j < K → ∀ g, x.v.ownBlock = some g → (u j).v.ownBlock ≠ some g
  e : (∃ g c, v K = ⟨some ⟨g, 0, none⟩, (v K).n, c⟩ ∧ x = ⟨some ⟨g, 0, none⟩, (v K).n + k, c⟩) ∨ ∀ g, x.v.ownBlock = some g → (v K).v.ownBlock ≠ some g
theorem row_cut {t n m c g : Nat} {xs ys : List Value} (h : w.ownsRow B t s (.slice (some ⟨g, 0, none⟩) (n + m) c) (n + m) (xs ++ ys)) (hx : xs.length = n * s) : w.ownsRow B t s (.slice (some ⟨g, 0, none⟩) n c) n xs := by
  rcases h.2 with ⟨h1, h2⟩ | ⟨g', cap, cur, hv, hB, hg, hnc, hcm, hcs, htk⟩
  · cases h1
  · simp only [Value.slice.injEq, Option.some.injEq, Addr.mk.injEq] at hv
    obtain ⟨⟨rfl, -⟩, -, rfl⟩ := hv
    refine ⟨hx, .inr ⟨g, c, cur, rfl, hB, hg, by omega, hcm, hcs, ?_⟩⟩
    have h3 := congrArg (List.take (n * s)) htk
    rw [List.take_take, show min (n * s) ((n + m) * s) = n * s by rw [Nat.add_mul]; omega, ← hx, List.take_left] at h3
    rw [← hx]
    exact h3
theorem rv_cut (n m : Nat) (f : Nat → Value) : ∃ ys, rv (n + m) f = rv n f ++ ys := ⟨(rv (n + m) f).drop n, by
  rw [← rv_take n (n + m) f (Nat.le_add_right _ _)]; exact (List.take_append_drop _ _).symm⟩
structure ApAt (v v' : Value) (n sz : Nat) : Prop where
  out : (∃ g cap, v = .slice (some ⟨g, 0, none⟩) n cap ∧ v' = .slice (some ⟨g, 0, none⟩) (n + 1) cap) ∨ v'.ownBlock = some sz
theorem Gw.start {N K : Nat} {v u : Nat → Sl} {G : Nat → Nat → Value} (hf : Fm B T s w N v G) (hg : Gr B T s w N v K u G) (hK : K < N) : Gw B T s w N v K u G 0 (v K) := by
  have ho := hf.o K hK
  refine ⟨rfl, ho, fun j hj hne g hg => hf.d K j hK hj hne g hg, fun j hj g h1 h2 => hg.d j K hj hK (by omega) g h2 h1, ?_⟩
  rcases ho.2 with ⟨h1, h2⟩ | ⟨g, cap, cur, hv, _⟩
  · refine .inr fun g hg => ?_
    rw [h1] at hg
    cases hg
  · refine .inl ⟨g, cap, ?_, ?_⟩
    · generalize v K = x at *
      cases x
      simp only [Sl.v, Value.slice.injEq] at hv
      obtain ⟨rfl, -, rfl⟩ := hv
      rfl
    · generalize v K = x at *
      cases x
      simp only [Sl.v, Value.slice.injEq] at hv
      obtain ⟨rfl, -, rfl⟩ := hv
      rfl
theorem Gw.grow {N K k : Nat} {v u : Nat → Sl} {G : Nat → Nat → Value} {x : Sl} {a' : Option Addr} {c' : Nat} (h : Gw B T s w N v K u G k x) (hf : Fm B T s w N v G) (hg : Gr B T s w N v K u G) (hK : K < N)
    (ho : w'.ownsRow B T s (.slice a' (x.n + 1) c') (x.n + 1) (rv ((x.n + 1) * s) (G K))) (hk : Kept w w' (fun j => x.v.ownBlock = some j)) (he : ApAt x.v (.slice a' (x.n + 1) c') x.n w.heap.size) (hold : w'.ownsRow B T s x.v x.n (rv (x.n * s) (G K))) :
    Gw B T s w' N v K u G (k + 1) ⟨a', x.n + 1, c'⟩ ∧ Fm B T s w' N v G ∧ Gr B T s w' N v K u G := by
  have hn := h.n
  have hob : (Value.slice a' (x.n + 1) c').ownBlock = x.v.ownBlock ∨ (Value.slice a' (x.n + 1) c').ownBlock = some w.heap.size := by
    rcases he.out with ⟨g, cap, h1, h2⟩ | h1
    · left; rw [h1, h2]; rfl
    · exact .inr h1
  refine ⟨⟨by show x.n + 1 = _; omega, ho, fun j hj hne g hgb e => ?_, fun j hj g hgb e => ?_, ?_⟩, ⟨fun j hj => ?_, hf.d⟩, hg.kept hk fun j hj g h1 h2 => h.u j hj g h2 h1⟩
  · rcases hob with h1 | h1
    · exact h.d j hj hne g (h1 ▸ hgb) e
    · have e1 : some w.heap.size = some g := h1 ▸ hgb
      have := (hf.lt hj e).1
      simp at e1
      omega
  · rcases hob with h1 | h1
    · exact h.u j hj g (h1 ▸ hgb) e
    · have e1 : some w.heap.size = some g := h1 ▸ hgb
      have := (hg.lt hj e).1
      simp at e1
      omega
  · rcases he.out with ⟨g, cap, h1, h2⟩ | h1
    · rcases h.e with ⟨g', c2, e1, e2⟩ | e1
      · refine .inl ⟨g', c2, e1, ?_⟩
        rw [e2] at h1
        simp only [Sl.v, Value.slice.injEq, Option.some.injEq, Addr.mk.injEq] at h1
        obtain ⟨⟨rfl, -⟩, -, rfl⟩ := h1
        simp only [Value.slice.injEq] at h2
        obtain ⟨rfl, -, rfl⟩ := h2
        rw [hn]
        rfl
      · refine .inr fun q hq e => e1 q ?_ e
        rw [h1]
        rw [show (Sl.v ⟨a', x.n + 1, c'⟩) = Value.slice (some ⟨g, 0, none⟩) (x.n + 1) cap from h2] at hq
        exact hq
    · refine .inr fun q hq e => ?_
      have e1 : some w.heap.size = some q := h1 ▸ hq
      have := (hf.lt hK e).1
      simp at e1
      omega
  · by_cases hjk : K = j
    · subst hjk
      rcases h.e with ⟨g', c2, e1, e2⟩ | e1
      · have h5 := hold
        rw [e2] at h5
        obtain ⟨ys, hys⟩ := rv_cut ((v K).n * s) (k * s) (G K)
        have e3 : rv (((v K).n + k) * s) (G K) = rv ((v K).n * s) (G K) ++ ys := by rw [Nat.add_mul, hys]
        have h6 : w'.ownsRow B T s (.slice (some ⟨g', 0, none⟩) ((v K).n + k) c2) ((v K).n + k) (rv ((v K).n * s) (G K) ++ ys) := by rw [← e3]; exact h5
        have h7 := row_cut h6 (rv_len _ _)
        have e4 : (v K).v = .slice (some ⟨g', 0, none⟩) (v K).n c2 := by rw [e1]; rfl
        rw [e4]
        exact h7
      · exact hk.owns (hf.o K hK) fun g h1 h2 => e1 g h2 h1
    · exact hk.owns (hf.o j hj) fun g h1 h2 => h.d j hj hjk g h2 h1
end
end
end Go.Proofs.Ytdegjhkjmgimpaa.Ms
