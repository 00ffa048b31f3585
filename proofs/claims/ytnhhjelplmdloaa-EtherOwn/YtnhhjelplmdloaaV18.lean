import Derived.Test.YtnhhjelplmdloaaV17
namespace Go.Proofs.Ytnhhjelplmdloaa.Et
open Go.RowKit Go.Maps
set_option linter.unusedVariables false
set_option linter.unusedSimpArgs false
set_option maxRecDepth 100000
section
variable {E E' : En} {R R' : Rn} {w w' w1 w2 w3 : World} {B K m : Nat}
theorem Sim.nodes (s : Sim E R K) (up up' : Nat → Bool) (inc inc' tick tick' : Nat → Int) (h : ∀ p, p < E.nn → up' p = up p ∧ inc' p = inc p ∧ tick' p = tick p) : Sim { E with up := up, inc := inc, tick := tick } { R with up := up', inc := inc', tick := tick' } (K + 1) :=
  ⟨s.nn, s.room, s.r1, s.now, s.last, Nat.le_succ_of_le s.len, h, s.pat, s.fs, s.szE, s.szR, s.few⟩
theorem upd1_eq {α : Type} {f g : Nat → α} {k p : Nat} {x : α} (h : f p = g p) : upd1 f k x p = upd1 g k x p := by simp only [upd1]; rw [h]
theorem Sim.tick (s : Sim E R K) (k : Nat) (hk : k < E.nn) : Sim { E with tick := upd1 E.tick k (wrap64 (E.tick k + 1)) } { R with tick := upd1 R.tick k (wrap64 (R.tick k + 1)) } (K + 1) := by
  rw [(s.nod k hk).2.2]
  exact s.nodes E.up R.up E.inc R.inc _ _ (fun p hp => ⟨(s.nod p hp).1, (s.nod p hp).2.1, upd1_eq (s.nod p hp).2.2⟩)
theorem Sim.same (s : Sim E R K) : Sim E R (K + 1) := s.mono (Nat.le_succ _)
theorem Sim.nxt (s : Sim E R K) (hK : K ≤ 2199023255551) : wN E = (R.all.length : Int) + 1 := by
  have := s.len
  unfold wN
  rw [s.last, wrap_eq]
  exact wrap_id (by omega) (by omega)
theorem Sim.add (s : Sim E R K) (hK : K ≤ 2199023255551) (f : Fx) (p : Px) (hg : p.gone = false) (hd : f.d = p.f.d) (h1 : f.n ≤ 40000) (h2 : p.f.n ≤ 40000) (hl : (E.fs.length : Int) < E.room) (a a' : Option Addr) (c c' : Nat) : Sim (added E f a c) { R with va := a', vc := c', all := R.all ++ [p] } (K + 1) := by
  refine ⟨s.nn, s.room, s.r1, s.now, ?_, ?_, s.nod, s.pat, ?_, ?_, ?_, ?_⟩
  · show wN E = _
    rw [s.nxt hK]; simp
  · have := s.len; simp; omega
  · show (E.fs ++ [f]).map Fx.d = _
    rw [List.map_append, List.filter_append, List.map_append, s.fs]
    simp [List.filter_cons, ng, hg, pd, hd]
  · intro x hx
    rcases List.mem_append.1 hx with hx | hx
    · exact s.szE x hx
    · obtain rfl := List.mem_singleton.1 hx; exact h1
  · intro x hx
    rcases List.mem_append.1 hx with hx | hx
    · exact s.szR x hx
    · obtain rfl := List.mem_singleton.1 hx; exact h2
  · show ((E.fs ++ [f]).length : Int) ≤ E.room
    simp; omega
theorem set_mid {α : Type} (A : List α) (p q : α) (C : List α) : (A ++ p :: C).set A.length q = A ++ q :: C := by
  rw [List.set_append_right _ _ (Nat.le_refl _)]; simp
theorem Sim.split (s : Sim E R K) (k : Nat) (hk : k < E.fs.length) : ∃ A p C FA f FC, R.all = A ++ p :: C ∧ A.length = (live R).getD k 0 ∧ p.gone = false ∧ R.all.getD ((live R).getD k 0) p0 = p ∧ E.fs = FA ++ f :: FC ∧ FA.length = k ∧ E.fs.getD k f0 = f ∧ f.d = p.f.d ∧ FA.map Fx.d = (A.filter ng).map pd ∧ FC.map Fx.d = (C.filter ng).map pd := by
  obtain ⟨A, p, C, h1, h2, h3, h4, h5⟩ := live_split R k (by rw [s.lvl]; exact hk)
  have hf := s.fs
  rw [h1, List.filter_append, List.filter_cons, if_pos (by simp [ng, h3]), List.map_append, List.map_cons] at hf
  obtain ⟨FA, F2, e1, e2, e3⟩ := List.map_eq_append_iff.1 hf
  obtain ⟨f, FC, e4, e5, e6⟩ := List.map_eq_cons_iff.1 e3
  subst e4
  have hl : FA.length = k := by rw [← List.length_map (f := Fx.d), e2, List.length_map, h4]
  refine ⟨A, p, C, FA, f, FC, h1, h2, h3, h5, e1, hl, ?_, e5, e2, e6⟩
  rw [e1, ← hl]
  simp [List.getD]
theorem Sim.at (s : Sim E R K) (k : Nat) (hk : k < E.fs.length) : (E.fs.getD k f0).d = (R.all.getD ((live R).getD k 0) p0).f.d ∧ (live R).getD k 0 < R.all.length := by
  obtain ⟨A, p, C, FA, f, FC, h1, h2, h3, h4, h5, h6, h7, h8, h9, h10⟩ := s.split k hk
  rw [h7, h4]
  refine ⟨h8, ?_⟩
  rw [← h2, h1]
  simp
theorem Sim.put (s : Sim E R K) (k : Nat) (hk : k < E.fs.length) (f' : Fx) (p' : Px) (hg : p'.gone = false) (hd : f'.d = p'.f.d) (h1' : f'.n ≤ 40000) (h2' : p'.f.n ≤ 40000) : Sim { E with fs := E.fs.set k f' } { R with all := R.all.set ((live R).getD k 0) p' } (K + 1) := by
  obtain ⟨A, p, C, FA, f, FC, h1, h2, h3, h4, h5, h6, h7, h8, h9, h10⟩ := s.split k hk
  refine ⟨s.nn, s.room, s.r1, s.now, ?_, ?_, s.nod, s.pat, ?_, ?_, ?_, ?_⟩
  · show E.last = _
    rw [s.last]; simp
  · have := s.len; simp; omega
  · show (E.fs.set k f').map Fx.d = _
    rw [← h2, h1, set_mid, h5, ← h6, set_mid]
    simp only [List.filter_append, List.filter_cons, List.map_append, List.map_cons, h9]
    rw [if_pos (by simp [ng, hg])]
    simp only [List.map_cons, h10, hd, pd]
  · intro x hx
    rcases mem_set hx with rfl | hx
    · exact h1'
    · exact s.szE x hx
  · intro x hx
    rcases pmem_set hx with rfl | hx
    · exact h2'
    · exact s.szR x hx
  · have := s.few
    show ((E.fs.set k f').length : Int) ≤ E.room
    simpa using this
theorem Sim.gone (s : Sim E R K) (k : Nat) (hk : k < E.fs.length) : (R.all.getD ((live R).getD k 0) p0).gone = false := by
  obtain ⟨A, p, C, FA, f, FC, h1, h2, h3, h4, h5, h6, h7, h8, h9, h10⟩ := s.split k hk
  rw [h4]; exact h3
theorem Sim.clock (s : Sim E R K) : wrap64 (R.now + 1) = ckN E := by rw [s.now]; rfl
end
end Go.Proofs.Ytnhhjelplmdloaa.Et
namespace Go.Proofs.Ytnhhjelplmdloaa.Et
open Go.RowKit Go.Maps
set_option linter.unusedVariables false
set_option linter.unusedSimpArgs false
set_option maxRecDepth 100000
section
variable {R R' : Rn} {w w' wr : World} {B B0 : Nat}
def OutL (B0 : Nat) (wr : World) (v : Value) (ds : List Fd) : Prop := ∃ L : List Fx, L.map Fx.d = ds ∧ wr.ownsRow B0 43 5 v L.length (flCells L) ∧ ∀ f ∈ L, f.byt wr B0
theorem OutL.nil (B0 : Nat) (wr : World) : OutL B0 wr (.slice none 0 0) [] := ⟨[], rfl, ⟨rfl, .inl ⟨rfl, rfl⟩⟩, fun f hf => by cases hf⟩
theorem OutL.keep {P : Nat → Prop} {v : Value} {ds : List Fd} (h : OutL B0 w v ds) (k : Kept w w' P) (hp : ∀ j, B0 ≤ j → ¬ P j) : OutL B0 w' v ds := by
  obtain ⟨L, h1, h2, h3⟩ := h
  exact ⟨L, h1, k.owns h2 (fun j hj => hp j (World.ownsRow.lt h2 j hj).1), fun f hf => (h3 f hf).keep k (fun j hj => hp j (World.ownsRow.lt (h3 f hf).1 j hj).1)⟩
theorem OutL.still {v : Value} {ds : List Fd} (h : OutL B0 w v ds) (hb : Below w.heap.size w w') : OutL B0 w' v ds := h.keep (Kept.ofBelow hb (fun _ => False)) (fun _ _ => id)
theorem OutL.push {X X' : World} {v v' : Value} {L : List Fx} {f : Fx} {n : Nat} (h2 : X.ownsRow B0 43 5 v L.length (flCells L)) (h3 : ∀ f ∈ L, f.byt X B0) (hf : f.byt X B0) (hn : n = L.length + 1) (ho : X'.ownsRow B0 43 5 v' n (flCells L ++ f.cs.toList)) (hg : X.grownBy X' v.ownBlock) : OutL B0 X' v' ((L ++ [f]).map Fx.d) := by
  have kp := Kept.ofGrown hg
  refine ⟨L ++ [f], rfl, ?_, ?_⟩
  · rw [flCells_app]
    subst hn
    simpa [flCells] using ho
  · intro x hx
    have hx2 : x.byt X B0 := by
      rcases List.mem_append.1 hx with hx | hx
      · exact h3 x hx
      · obtain rfl := List.mem_singleton.1 hx; exact hf
    exact hx2.keep kp (fun j hj e => own_ty hx2.1 h2 (by decide) hj e.symm)
theorem OutL.rdf {v : Value} {ds : List Fd} (h : OutL B0 w v ds) : ∃ a n c, v = .slice a n c ∧ RdF w a n ds := by
  obtain ⟨L, h1, h2, h3⟩ := h
  obtain ⟨a, c, rfl⟩ := own_shape (B' := 0) h2
  exact ⟨a, L.length, c, rfl, L, h1, rfl, fun f hf => (h3 f hf).rd, row_cells h2 rfl⟩
end
end Go.Proofs.Ytnhhjelplmdloaa.Et
