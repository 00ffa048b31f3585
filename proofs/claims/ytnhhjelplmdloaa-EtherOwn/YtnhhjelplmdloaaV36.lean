import Derived.Test.YtnhhjelplmdloaaV35
import Derived.Laws.AppendOwnNone
import Derived.Great.BuildSlice
import Derived.Great.Walk
namespace Go.Proofs.Ytnhhjelplmdloaa.Et
open Go.RowKit Go.Maps
set_option linter.unusedVariables false
set_option linter.unusedSimpArgs false
set_option maxRecDepth 100000
section
variable {w w' W : World} {B : Nat}
theorem rowc {t s n : Nat} {v : Value} {l : List Value} (h : w.ownsRow B t s v n l) {j : Nat} (hj : v.ownBlock = some j) : B ≤ j ∧ ∃ cur, w.heap[j]? = some (.cells cur t (0, 0)) := ⟨(World.ownsRow.lt h j hj).1, row_ty h hj⟩
theorem own_keptT {T T' k k' n n' B' : Nat} {v v' : Value} {l l' : List Value} (h : w.ownsRow B T k v n l) (ho : w.ownsRow B' T' k' v' n' l') (hk : Kept w w' (fun j => v'.ownBlock = some j)) (hne : T ≠ T') : w'.ownsRow B T k v n l := hk.owns h (fun j hj e => own_ty h ho hne hj e)
section
variable {ops : Array Oper} {rest : List Oper} {o : Oper} {a : Act} {K : Act → World → Prop} {Q : Exit → Act → World → Prop} {E : Prop}
theorem wp_bsl (t e : TypeId) (len : Nat) (parts : Array (Nat × Operand)) (ho : o.op = .buildSlice t len parts) (hu : Try.prog.underlying t = some (.slice e)) (cells : Array Value)
    (hf : Try.prog.builtSlice e len (parts.map fun (i, x) => (i, a.eval x)).toList = some cells)
    (h : K (a.put o.dst (.slice (some ⟨w.heap.size, 0, none⟩) len len)) (w.alloc (.cells cells e))) : Oper.wp Try.prog o a w K Q := by
  unfold Program.builtSlice at hf
  cases hie : Try.prog.info? e with
  | none => simp [hie] at hf
  | some ie =>
    simp only [hie] at hf
    cases hz : ie.zero with
    | none => simp [hz] at hf
    | some z =>
      simp only [hz] at hf
      by_cases hc : len * ie.size > 2 ^ 24 ∨ len * ie.size = 0
      · simp [hc] at hf
      · rw [if_neg hc] at hf
        exact wp_buildSlice t e len parts ho cells ie z hu hie hz (fun h' => hc (Or.inl h')) (fun h' => hc (Or.inr h')) hf h
theorem step_bsl (hgd : o.guard = none) (t e : TypeId) (len : Nat) (parts : Array (Nat × Operand)) (ho : o.op = .buildSlice t len parts) (hu : Try.prog.underlying t = some (.slice e)) (cells : Array Value)
    (hf : Try.prog.builtSlice e len (parts.map fun (i, x) => (i, a.eval x)).toList = some cells)
    (h : ∀ V : World, V.heap[w.heap.size]? = some (.cells cells e (0, 0)) → Below w.heap.size w V → w.heap.size < V.heap.size → K (a.put o.dst (.slice (some ⟨w.heap.size, 0, none⟩) len len)) V) : if Region.wanted o (yielded ops a.tmps) = true then Oper.wp Try.prog o a w K Q else E := by
  have hwt : Region.wanted o (yielded ops a.tmps) = true := by simp [Region.wanted, hgd]
  rw [if_pos hwt]
  exact wp_bsl t e len parts ho hu cells hf (h _ (heap_alloc_new w _) ((Below.refl _ _).alloc (Nat.le_refl _) _) (by simp))
theorem wl_bsl (hgd : o.guard = none) (t e : TypeId) (len : Nat) (parts : Array (Nat × Operand)) (ho : o.op = .buildSlice t len parts) (hu : Try.prog.underlying t = some (.slice e)) (cells : Array Value)
    (hf : Try.prog.builtSlice e len (parts.map fun (i, x) => (i, a.eval x)).toList = some cells)
    (h : ∀ V : World, V.heap[w.heap.size]? = some (.cells cells e (0, 0)) → Below w.heap.size w V → w.heap.size < V.heap.size → wpList Try.prog ops Q rest (a.put o.dst (.slice (some ⟨w.heap.size, 0, none⟩) len len)) V) : wpList Try.prog ops Q (o :: rest) a w :=
  wpList_plain hgd fun K hK => wp_bsl t e len parts ho hu cells hf (hK _ _ (h _ (heap_alloc_new w _) ((Below.refl _ _).alloc (Nat.le_refl _) _) (by simp)))
theorem bsl_eq {e : TypeId} {n : Nat} {l l' : List (Nat × Value)} {c : Array Value} (e1 : l = l') (h : Try.prog.builtSlice e n l' = some c) : Try.prog.builtSlice e n l = some c := e1 ▸ h
theorem app_g (hgd : o.guard = none) (s x : Operand) (t : TypeId)
    (ho : o.op = .call { callee := .builtin .append, args := #[s, x], argTypes := #[t, t] })
    (base : Nat) (e : TypeId) (i : TypeInfo) (z : Value) (size bytes : Nat) (ht : Try.prog.underlying t = some (.slice e)) (hi : Try.prog.info? e = some i) (hz : i.zero = some z)
    (hsize : i.size = size) (hby : i.bytes = bytes) (hzs : z.cells.size = size) (hsz : 0 < size)
    (v : Value) (n : Nat) (xs : List Value) (hs : a.eval s = v) (hown : w.ownsRow base e size v n xs)
    (ao : Option Addr) (m c : Nat) (news : List Value) (hx : a.eval x = .slice ao m c) (hnone : ao = none → m = 0 ∧ c = 0) (hl : news.length = m * size) (hnews : ∀ ad, ao = some ad → ∀ j u, news[j]? = some u → w.cell? (ad.add j) = some u) (h1 : ∀ u ∈ news, u.oneCell' = true)
    (h63 : n + m ≤ maxLen) (hbytes : (n + m) * bytes ≤ 140737488355328) (hbase : base ≤ w.heap.size)
    (h : ∀ v' w', Hid (w'.ownsRow base e size v' (n + m) (xs ++ news)) → Hid (Kept w w' (fun k => v.ownBlock = some k)) → Hid (v'.ownBlock = v.ownBlock ∨ v'.ownBlock = some w.heap.size) → wpList Try.prog ops Q rest (a.put o.dst v') w') :
    wpList Try.prog ops Q (o :: rest) a w := by
  cases ao with
  | some ad =>
    refine wpList_append_own_at w hgd s x t ho base e i z size bytes ht hi hz hsize hby hzs hsz v n xs hs hown ad m c news hx hl (hnews ad rfl) h1 h63 hbytes hbase ?_
    intro v' w' h2 h3 _ h5
    exact h v' w' h2 ((Kept.ofGrown h3).mono fun k _ hk => hk.symm) h5
  | none =>
    obtain ⟨rfl, rfl⟩ := hnone rfl
    obtain rfl : news = [] := List.eq_nil_of_length_eq_zero (by rw [hl]; omega)
    exact wpList_append_own_none hgd s x t ho base e i size ht hi v n xs hs hown hx (h v w (by show World.ownsRow _ _ _ _ _ _ _; simpa using hown) (Kept.refl _ _) (.inl rfl))
end
def updF {α : Type} (f : Nat → α) (i : Nat) (x : α) : Nat → α := fun j => if j = i then x else f j
theorem own_blk (a : Option Addr) (n m c d : Nat) : (Value.slice a n c).ownBlock = (Value.slice a m d).ownBlock := by
  cases a with
  | none => rfl
  | some ad => rfl
structure Fam (B T k : Nat) (w : World) (N : Nat) (v : Nat → Value) (m : Nat → Nat) (l : Nat → List Value) : Prop where
  o : ∀ i, i < N → w.ownsRow B T k (v i) (m i) (l i)
  d : ∀ i j, i < N → j < N → i ≠ j → ∀ g, (v i).ownBlock = some g → (v j).ownBlock ≠ some g
section
variable {T k N : Nat} {v : Nat → Value} {m : Nat → Nat} {l : Nat → List Value}
theorem Fam.still (h : Fam B T k w N v m l) (hb : Below w.heap.size w w') : Fam B T k w' N v m l := ⟨fun i hi => own_still (h.o i hi) hb, h.d⟩
theorem Fam.lower {B' : Nat} (h : Fam B T k w N v m l) (hB : B' ≤ B) : Fam B' T k w N v m l := ⟨fun i hi => own_lower (h.o i hi) hB, h.d⟩
theorem Fam.kept {P : Nat → Prop} (h : Fam B T k w N v m l) (hk : Kept w w' P) (hp : ∀ i, i < N → ∀ g, (v i).ownBlock = some g → ¬ P g) : Fam B T k w' N v m l := ⟨fun i hi => hk.owns (h.o i hi) (hp i hi), h.d⟩
theorem Fam.keptT {T' k' n' B' : Nat} {v' : Value} {l' : List Value} (h : Fam B T k w N v m l) (ho : w.ownsRow B' T' k' v' n' l') (hk : Kept w w' (fun j => v'.ownBlock = some j)) (hne : T ≠ T') : Fam B T k w' N v m l := ⟨fun i hi => own_keptT (h.o i hi) ho hk hne, h.d⟩
theorem Fam.congr {v2 : Nat → Value} {m2 : Nat → Nat} {l2 : Nat → List Value} (h : Fam B T k w N v m l) (e : ∀ i, i < N → v2 i = v i ∧ m2 i = m i ∧ l2 i = l i) : Fam B T k w N v2 m2 l2 := ⟨fun i hi => by rw [(e i hi).1, (e i hi).2.1, (e i hi).2.2]; exact h.o i hi, fun i j hi hj hne g hg => by rw [(e i hi).1] at hg; rw [(e j hj).1]; exact h.d i j hi hj hne g hg⟩
theorem Fam.lt (h : Fam B T k w N v m l) {i : Nat} (hi : i < N) {g : Nat} (hg : (v i).ownBlock = some g) : g < w.heap.size := by
  obtain ⟨_, cur, hc⟩ := rowc (h.o i hi) hg
  exact (Array.getElem?_eq_some_iff.1 hc).1
theorem Fam.put (h : Fam B T k w N v m l) {i m' : Nat} {v' : Value} {l' : List Value} (hi : i < N) (ho : w'.ownsRow B T k v' m' l') (hk : Kept w w' (fun j => (v i).ownBlock = some j)) (hob : v'.ownBlock = (v i).ownBlock ∨ v'.ownBlock = some w.heap.size) : Fam B T k w' N (updF v i v') (updF m i m') (updF l i l') := by
  refine ⟨fun j hj => ?_, fun a b ha hb hne g hg => ?_⟩
  · unfold updF
    by_cases e : j = i
    · rw [if_pos e, if_pos e, if_pos e]; exact ho
    · rw [if_neg e, if_neg e, if_neg e]
      exact hk.owns (h.o j hj) (fun g hg e2 => h.d i j hi hj (fun x => e x.symm) g e2 hg)
  · unfold updF at hg ⊢
    by_cases e1 : a = i
    · subst e1
      rw [if_pos rfl] at hg
      rw [if_neg (fun x => hne x.symm)]
      rcases hob with h1 | h1
      · rw [h1] at hg
        exact h.d a b ha hb hne g hg
      · rw [h1] at hg
        simp only [Option.some.injEq] at hg
        intro h2
        have := h.lt hb h2
        omega
    · rw [if_neg e1] at hg
      by_cases e2 : b = i
      · subst e2
        rw [if_pos rfl]
        rcases hob with h1 | h1
        · rw [h1]
          exact h.d a b ha hb hne g hg
        · rw [h1]
          intro h2
          simp only [Option.some.injEq] at h2
          have := h.lt ha hg
          omega
      · rw [if_neg e2]
        exact h.d a b ha hb hne g hg
theorem Fam.snoc (h : Fam B T k w N v m l) {m' : Nat} {v' : Value} {l' : List Value} {B2 : Nat} (hB2 : w.heap.size ≤ B2) (hB : B ≤ B2) (hk : Fam B T k w' N v m l) (ho : w'.ownsRow B2 T k v' m' l') : Fam B T k w' (N + 1) (updF v N v') (updF m N m') (updF l N l') := by
  refine ⟨fun j hj => ?_, fun a b ha hb hne g hg => ?_⟩
  · unfold updF
    by_cases e : j = N
    · rw [if_pos e, if_pos e, if_pos e]; exact own_lower ho hB
    · rw [if_neg e, if_neg e, if_neg e]; exact hk.o j (by omega)
  · unfold updF at hg ⊢
    by_cases e1 : a = N
    · subst e1
      rw [if_pos rfl] at hg
      rw [if_neg (fun x => hne x.symm)]
      have h1 := (rowc ho hg).1
      intro h2
      have := h.lt (show b < a by omega) h2
      omega
    · rw [if_neg e1] at hg
      by_cases e2 : b = N
      · subst e2
        rw [if_pos rfl]
        intro h2
        have h1 := (rowc ho h2).1
        have := h.lt (show a < b by omega) hg
        omega
      · rw [if_neg e2]
        exact h.d a b (by omega) (by omega) hne g hg
end
end
end Go.Proofs.Ytnhhjelplmdloaa.Et
namespace Go.Proofs.Ytnhhjelplmdloaa.Et
open Go.RowKit Go.Maps
set_option linter.unusedVariables false
set_option linter.unusedSimpArgs false
set_option maxRecDepth 100000
section
variable {E E1 E' : En} {w w' w1 w2 w3 : World} {B K m : Nat}
structure Be where
  src : Int
  dst : Int
  a : Option Addr
  c : Nat
  bs : List Int
  come : Bool
def Be.v (e : Be) : Value := .slice e.a e.bs.length e.c
def e0 : Be := ⟨0, 0, none, 0, [], false⟩
def byl (bs : List Int) : List Value := bs.map (Value.int .u8)
section
variable {ops : Array Oper} {rest : List Oper} {o : Oper} {a : Act} {K : Act → World → Prop} {Q : Exit → Act → World → Prop} {EE : Prop}
theorem wl_stS (hgd : o.guard = none) (ty : TypeId) (x y : Operand) (ho : o.op = .store ty x y) {g p t : Nat} {C : Array Value} {sa : Option Addr} {sn sc : Nat} (hx : a.eval x = .pointer (some ⟨g, p, none⟩)) (hy : a.eval y = .slice sa sn sc) (hg : w.heap[g]? = some (.cells C t (0, 0))) (hp : p < C.size) (hz : (Try.prog.info? ty).map (·.size) = some 1) (hd : o.dst = none)
    (h : wpList Try.prog ops Q rest a (w.setCell ⟨g, p, none⟩ (.slice sa sn sc))) : wpList Try.prog ops Q (o :: rest) a w :=
  wpList_plain hgd fun K hK => by
    have q : w.cell? ⟨g, p, none⟩ = some C[p] := by rw [blk_cell hg p]; exact Array.getElem?_eq_getElem hp
    have zz : w.frozen? ⟨g, p, none⟩ = false := frozen_of_row w _ _ _ _ hg
    have hs := size_of (w := w) hz
    unfold Oper.wp execOp
    simp only [ho, hx, hy]
    go_simp
    have hk := hK a _ h
    rw [hd] at *
    exact hk
theorem step_stS (hgd : o.guard = none) (ty : TypeId) (x y : Operand) (ho : o.op = .store ty x y) {g p t : Nat} {C : Array Value} {sa : Option Addr} {sn sc : Nat} (hx : a.eval x = .pointer (some ⟨g, p, none⟩)) (hy : a.eval y = .slice sa sn sc) (hg : w.heap[g]? = some (.cells C t (0, 0))) (hp : p < C.size) (hz : (Try.prog.info? ty).map (·.size) = some 1) (hd : o.dst = none)
    (h : K a (w.setCell ⟨g, p, none⟩ (.slice sa sn sc))) : if Region.wanted o (yielded ops a.tmps) = true then Oper.wp Try.prog o a w K Q else EE := by
  rw [if_pos (show Region.wanted o (yielded ops a.tmps) = true by simp [Region.wanted, hgd])]
  have q : w.cell? ⟨g, p, none⟩ = some C[p] := by rw [blk_cell hg p]; exact Array.getElem?_eq_getElem hp
  have zz : w.frozen? ⟨g, p, none⟩ = false := frozen_of_row w _ _ _ _ hg
  have hs := size_of (w := w) hz
  unfold Oper.wp execOp
  simp only [ho, hx, hy]
  go_simp
  have hk := h
  rw [hd] at *
  exact hk
end
structure B4 (w : World) (B bb : Nat) (sv dv bv cv : Value) (ns nd nb nc : Nat) (ls ld lb lc : List Value) : Prop where
  blk : w.heap[bb]? = some (.cells #[sv, dv, bv, cv] 34 (0, 0))
  ge : B ≤ bb
  s : w.ownsRow B 3 1 sv ns ls
  d : w.ownsRow B 3 1 dv nd ld
  b : w.ownsRow B 35 1 bv nb lb
  c : w.ownsRow B 4 1 cv nc lc
  sd : ∀ j, sv.ownBlock = some j → dv.ownBlock ≠ some j
def Bo (bb : Nat) (sv dv bv cv : Value) (j : Nat) : Prop := j = bb ∨ sv.ownBlock = some j ∨ dv.ownBlock = some j ∨ bv.ownBlock = some j ∨ cv.ownBlock = some j
section
variable {bb ns nd nb nc : Nat} {sv dv bv cv : Value} {ls ld lb lc : List Value}
theorem B4.keep {P : Nat → Prop} (h : B4 w B bb sv dv bv cv ns nd nb nc ls ld lb lc) (k : Kept w w' P) (hp : ∀ j, Bo bb sv dv bv cv j → ¬ P j) : B4 w' B bb sv dv bv cv ns nd nb nc ls ld lb lc :=
  ⟨k.obj h.blk (hp _ (.inl rfl)), h.ge, k.owns h.s (fun j hj => hp j (.inr (.inl hj))), k.owns h.d (fun j hj => hp j (.inr (.inr (.inl hj)))), k.owns h.b (fun j hj => hp j (.inr (.inr (.inr (.inl hj))))), k.owns h.c (fun j hj => hp j (.inr (.inr (.inr (.inr hj))))), h.sd⟩
theorem B4.still (h : B4 w B bb sv dv bv cv ns nd nb nc ls ld lb lc) (hb : Below w.heap.size w w') : B4 w' B bb sv dv bv cv ns nd nb nc ls ld lb lc := h.keep (Kept.ofBelow hb (fun _ => False)) (fun _ _ => id)
theorem B4.lt (h : B4 w B bb sv dv bv cv ns nd nb nc ls ld lb lc) {j : Nat} (hj : Bo bb sv dv bv cv j) : j < w.heap.size ∧ B ≤ j := by
  rcases hj with rfl | hj | hj | hj | hj
  · exact ⟨lt_heap h.blk, h.ge⟩
  · obtain ⟨h1, c, h2⟩ := rowc h.s hj; exact ⟨lt_heap h2, h1⟩
  · obtain ⟨h1, c, h2⟩ := rowc h.d hj; exact ⟨lt_heap h2, h1⟩
  · obtain ⟨h1, c, h2⟩ := rowc h.b hj; exact ⟨lt_heap h2, h1⟩
  · obtain ⟨h1, c, h2⟩ := rowc h.c hj; exact ⟨lt_heap h2, h1⟩
structure Pst (w0 w : World) (B bb : Nat) (P : Nat → Prop) (sv dv bv cv : Value) (ns nd nb nc : Nat) (ls ld lb lc : List Value) : Prop where
  b : B4 w B bb sv dv bv cv ns nd nb nc ls ld lb lc
  k : Kept w0 w P
  p : ∀ j, Bo bb sv dv bv cv j → P j ∨ w0.heap.size ≤ j
  h : B ≤ w0.heap.size
theorem Pst.still {w0 : World} {P : Nat → Prop} (h : Pst w0 w B bb P sv dv bv cv ns nd nb nc ls ld lb lc) (hb : Below w.heap.size w w') : Pst w0 w' B bb P sv dv bv cv ns nd nb nc ls ld lb lc := ⟨h.b.still hb, h.k.step (Kept.ofBelow hb (fun _ => False)) (fun _ e => e.elim), h.p, h.h⟩
end
def e9 (f : Be → Int) (es : List Be) : List Value := es.map fun e => .int .i64 (f e)
structure Bkm (w : World) (B bb : Nat) (sv dv bv cv : Value) (es : List Be) : Prop where
  m : B4 w B bb sv dv bv cv es.length es.length es.length es.length (e9 Be.src es) (e9 Be.dst es) (es.map Be.v) (es.map fun e => .bool e.come)
  f : Fam B 5 1 w es.length (fun i => (es.getD i e0).v) (fun i => (es.getD i e0).bs.length) (fun i => byl (es.getD i e0).bs)
  r : ∀ i j, 0 ≤ (es.getD i e0).bs.getD j 0 ∧ (es.getD i e0).bs.getD j 0 ≤ 255
theorem Bkm.still {bb : Nat} {sv dv bv cv : Value} {es : List Be} (h : Bkm w B bb sv dv bv cv es) (hb : Below w.heap.size w w') : Bkm w' B bb sv dv bv cv es := ⟨h.m.still hb, h.f.still hb, h.r⟩
theorem Bkm.keep {P : Nat → Prop} {bb : Nat} {sv dv bv cv : Value} {es : List Be} (h : Bkm w B bb sv dv bv cv es) (k : Kept w w' P) (h1 : ∀ j, Bo bb sv dv bv cv j → ¬ P j) (h2 : ∀ i, i < es.length → ∀ j, (es.getD i e0).v.ownBlock = some j → ¬ P j) : Bkm w' B bb sv dv bv cv es := ⟨h.m.keep k h1, h.f.kept k h2, h.r⟩
theorem tB : ∃ i : TypeInfo, Try.prog.info? 35 = some i ∧ i.zero = some (.slice none 0 0) ∧ i.size = 1 ∧ i.bytes = 24 := by
  have h : (Try.prog.info? 35).map (fun i => (i.zero, i.size, i.bytes)) = some (some (.slice none 0 0), 1, 24) := by kernel_rfl
  cases hq : Try.prog.info? 35 with
  | none => rw [hq] at h; cases h
  | some i => rw [hq] at h; simp at h; exact ⟨i, rfl, h.1, h.2.1, h.2.2⟩
theorem tU : ∃ i : TypeInfo, Try.prog.info? 5 = some i ∧ i.zero = some (.int .u8 0) ∧ i.size = 1 ∧ i.bytes = 1 := by
  have h : (Try.prog.info? 5).map (fun i => (i.zero, i.size, i.bytes)) = some (some (.int .u8 0), 1, 1) := by kernel_rfl
  cases hq : Try.prog.info? 5 with
  | none => rw [hq] at h; cases h
  | some i => rw [hq] at h; simp at h; exact ⟨i, rfl, h.1, h.2.1, h.2.2⟩
theorem own_sh {t s n : Nat} {v : Value} {l : List Value} (h : w.ownsRow B t s v n l) : ∃ a c, v = .slice a n c := by
  rcases h.2 with ⟨e, h0⟩ | ⟨g, cap, cur, hv, _⟩
  · exact ⟨none, 0, by rw [e, h0]⟩
  · exact ⟨_, _, hv⟩
end
end Go.Proofs.Ytnhhjelplmdloaa.Et
