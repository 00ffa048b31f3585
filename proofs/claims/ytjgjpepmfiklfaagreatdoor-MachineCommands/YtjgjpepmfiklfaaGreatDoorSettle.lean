import Derived.Test.YtjgjpepmfiklfaaGreatDoorWrite
namespace Go.Proofs.YtjgjpepmfiklfaaGreatDoor.Bk
open Go.RowKit Lo
set_option linter.unusedVariables false

theorem rows_set (ps : List Pg) (k : Nat) (p q : Pg) (j : Nat) (v : Value) (hk : ps[k]? = some p) (hj : j < 5) (hq : pgc q = (pgc p).set j v) : (rows ps).set (k * 5 + j) v = rows (ps.set k q) := by
  induction ps generalizing k with
  | nil => simp at hk
  | cons r ps ih =>
    cases k with
    | zero =>
      simp at hk
      subst hk
      simp only [rows, List.flatMap_cons, Nat.zero_mul, Nat.zero_add, List.set_cons_zero]
      rw [List.set_append_left _ _ (by simp [pgc]; omega), hq]
    | succ k =>
      simp only [List.getElem?_cons_succ] at hk
      have h := ih k hk
      simp only [rows, List.flatMap_cons, List.set_cons_succ] at *
      rw [List.set_append_right _ _ (by simp [pgc]; omega), ← h]
      congr 2
      simp [pgc]
      omega

theorem row_set {cur : Array Value} {n a : Nat} {v : Value} {xs : List Value} (h : cur.toList.take n = xs) (ha : a < n) : (cur.setIfInBounds a v).toList.take n = xs.set a v := by
  rw [Array.toList_setIfInBounds, ← h]
  apply List.ext_getElem?
  intro i
  rw [List.getElem?_take, List.getElem?_set, List.getElem?_set, List.getElem?_take, List.length_take]
  by_cases hi : i < n
  · rw [if_pos hi]
    by_cases e : a = i
    · subst e
      simp only [if_true, Array.length_toList]
      by_cases h3 : a < cur.size
      · rw [if_pos h3, if_pos (by omega)]
      · rw [if_neg h3, if_neg (by omega)]
    · rw [if_neg e, if_neg e, if_pos hi]
  · rw [if_neg hi]
    by_cases e : a = i
    · omega
    · rw [if_neg e, if_neg hi]

theorem get_set {ps : List Pg} {k i : Nat} {q r : Pg} (h : (ps.set k q)[i]? = some r) : (i = k ∧ r = q) ∨ (i ≠ k ∧ ps[i]? = some r) := by
  rw [List.getElem?_set] at h
  by_cases e : k = i
  · subst e
    simp at h
    exact .inl ⟨rfl, h.2.symm⟩
  · rw [if_neg e] at h
    exact .inr ⟨fun h => e h.symm, h⟩

theorem book_set {w w' : World} {base kb pk cp k : Nat} {nx : Int} {ps : List Pg} {p : Pg} (H : BookIs w base kb (.slice (some ⟨pk, 0, none⟩) ps.length cp) nx ps) (hk : ps[k]? = some p) (q : Pg) (hqB : q.B = p.B) (hq : PgOK w' base q)
    (hK : Kept w w' (fun j => j = pk ∨ some j = p.B.ownBlock)) (cur cur' : Array Value) (hc : w.heap[pk]? = some (.cells cur 75 (0, 0))) (hc' : w'.heap[pk]? = some (.cells cur' 75 (0, 0))) (hsz : cur'.size = cur.size) (hrow : cur'.toList.take (ps.length * 5) = rows (ps.set k q))
    (hsep : ∀ (i : Nat) (r : Pg), ps[i]? = some r → i ≠ k → ∀ j, r.B.ownBlock = some j → ¬ holds q j) : BookIs w' base kb (.slice (some ⟨pk, 0, none⟩) ps.length cp) nx (ps.set k q) := by
  have hpm := List.mem_of_getElem? hk
  have hkpk : kb ≠ pk := fun e => by subst e; exact apart_types hc H.k (by decide)
  have hkB : some kb ≠ p.B.ownBlock := fun e => notKb H (H.ok p hpm).b kb e.symm rfl
  have hlt : k < ps.length := (List.getElem?_eq_some_iff.1 hk).1
  refine ⟨(hK.block kb (lt_heap H.k) (by simp [hkpk]; exact hkB)).trans H.k, ?_, ?_, ?_, Nat.le_trans H.b hK.size, H.n0, H.n1, by simpa using H.cnt⟩
  · rw [List.length_set]
    refine ⟨by rw [rows_len]; simp, ?_⟩
    rcases H.o.2 with ⟨h1, _⟩ | ⟨g, cap, c2, hv, hb, hg, hn, hcm, hcs, ht⟩
    · simp at h1
    · simp only [Value.slice.injEq, Option.some.injEq, Addr.mk.injEq, and_true, true_and] at hv
      obtain ⟨rfl, rfl⟩ := hv
      have e2 : c2 = cur := by rw [hg] at hc; simp at hc; exact hc
      subst e2
      exact .inr ⟨pk, cp, cur', rfl, hb, hc', hn, hcm, by rw [hsz]; exact hcs, hrow⟩
  · intro r hr
    obtain ⟨i, hi⟩ := List.getElem?_of_mem hr
    rcases get_set hi with ⟨_, rfl⟩ | ⟨e, hi⟩
    · exact hq
    · refine (H.ok r (List.mem_of_getElem? hi)).kept hK (fun j hj hP => ?_)
      rcases hP with e1 | e1
      · subst e1
        obtain ⟨c3, hc3⟩ := holds_type (H.ok r (List.mem_of_getElem? hi)) hj
        exact apart_types hc3 hc (by decide)
      · exact H.sep k i p r hk hi (fun h => e h.symm) j e1.symm hj
  · intro i j r s hi hj hne b hb
    rcases get_set hi with ⟨rfl, rfl⟩ | ⟨ei, hi⟩
    · rcases get_set hj with ⟨rfl, rfl⟩ | ⟨ej, hj⟩
      · exact absurd rfl hne
      · rw [hqB] at hb
        exact H.sep i j p s hk hj hne b hb
    · rcases get_set hj with ⟨e1, e2⟩ | ⟨ej, hj⟩
      · rw [e2]; exact hsep i r ‹ps[i]? = some r› ei b hb
      · exact H.sep i j r s hi hj hne b hb

def fillP (p : Pg) : Pg := if p.dn then p else { p with dn := true, gr := false }
theorem fillP_B (p : Pg) : (fillP p).B = p.B := by unfold fillP; split <;> rfl
theorem fillP_dn (p : Pg) : (fillP p).dn = true := by unfold fillP; split <;> simp_all

theorem page_row {w : World} {base pk cp : Nat} {ps : List Pg} {k : Nat} {p : Pg} (h : w.ownsRow base 75 5 (.slice (some ⟨pk, 0, none⟩) ps.length cp) ps.length (rows ps)) (hk : ps[k]? = some p) :
    ∃ cur, w.heap[pk]? = some (.cells cur 75 (0, 0)) ∧ cur.toList.take (ps.length * 5) = rows ps ∧ cur[k * 5]? = some p.B ∧ cur[k * 5 + 1]? = some p.G ∧ cur[k * 5 + 2]? = some p.V ∧ cur[k * 5 + 3]? = some (.int .i64 p.id) ∧ cur[k * 5 + 4]? = some (.bool p.dn) := by
  have hlt : k < ps.length := (List.getElem?_eq_some_iff.1 hk).1
  rcases h.2 with ⟨h1, _⟩ | ⟨g, cap, c2, hv, hb, hg, hn, hcm, hcs, ht⟩
  · simp at h1
  · simp only [Value.slice.injEq, Option.some.injEq, Addr.mk.injEq, and_true, true_and] at hv
    obtain ⟨rfl, rfl⟩ := hv
    have key : ∀ j, j < 5 → c2[k * 5 + j]? = (pgc p)[j]? := by
      intro j hj
      rw [← rows_get ps k p hk j hj, ← ht, List.getElem?_take, if_pos (by omega)]
      simp
    exact ⟨c2, hg, ht, key 0 (by decide), key 1 (by decide), key 2 (by decide), key 3 (by decide), key 4 (by decide)⟩

theorem fill_page (base kb pk cp : Nat) (nx : Int) (ps : List Pg) (k : Nat) (p : Pg) (w : World) (H : BookIs w base kb (.slice (some ⟨pk, 0, none⟩) ps.length cp) nx ps) (hk : ps[k]? = some p) (hd : p.dn = false) :
    Calls Tryz.prog 37 #[.pointer (some ⟨pk, k * 5, none⟩)] w fun e w' => e = .returned (.tuple #[]) ∧ BookIs w' base kb (.slice (some ⟨pk, 0, none⟩) ps.length cp) nx (ps.set k (fillP p)) ∧ Kept w w' (fun j => j = pk ∨ some j = p.B.ownBlock) := by
  obtain ⟨cur, hc, ht, c0, c1, c2, c3, c4⟩ := page_row H.o hk
  have hpm := List.mem_of_getElem? hk
  have hok := H.ok p hpm
  have hb := hok.b
  unfold cont at hb
  rw [hd] at hb
  have hlt : k < ps.length := (List.getElem?_eq_some_iff.1 hk).1
  refine (fill_any pk (k * 5) cur p.B base p.bs p.id p.dn w hb hc c0 c3 c4 hok.i0 (by have := hok.i1; omega) (by have := hok.len; omega)).mono fun e w' h => ?_
  obtain ⟨h1, h2, h3, h4⟩ := h
  have hf : fillP p = { p with dn := true, gr := false } := by unfold fillP; rw [hd]; rfl
  refine ⟨h1, book_set H hk (fillP p) (fillP_B p) ?_ h4 cur _ hc h3 (by simp) ?_ ?_, h4⟩
  · rw [hf]
    exact ⟨h2, fun e => by simp at e, fun e => by simp at e, hok.i0, hok.i1, hok.len, fun e => by simp at e⟩
  · rw [row_set ht (by omega)]
    exact rows_set ps k p (fillP p) 4 (.bool true) hk (by decide) (by rw [hf]; rfl)
  · intro i r hi hne j hj hh
    rw [hf] at hh
    rcases hh with e | ⟨e, _⟩ | ⟨e, _⟩
    · exact H.sep i k r p hi hk hne j hj (.inl e)
    · simp at e
    · simp at e

theorem grow_page (base kb pk cp : Nat) (nx : Int) (ps : List Pg) (k : Nat) (p : Pg) (w : World) (H : BookIs w base kb (.slice (some ⟨pk, 0, none⟩) ps.length cp) nx ps) (hk : ps[k]? = some p) (hd : p.dn = true) :
    Calls Tryz.prog 38 #[.pointer (some ⟨pk, k * 5, none⟩)] w fun e w' => e = .returned (.tuple #[]) ∧ ∃ G, BookIs w' base kb (.slice (some ⟨pk, 0, none⟩) ps.length cp) nx (ps.set k { p with G := G, gr := true }) ∧ Kept w w' (fun j => j = pk ∨ some j = p.B.ownBlock) ∧ (G.ownBlock = p.B.ownBlock ∨ ∃ g', G.ownBlock = some g' ∧ w.heap.size ≤ g') := by
  obtain ⟨cur, hc, ht, c0, c1, c2, c3, c4⟩ := page_row H.o hk
  have hpm := List.mem_of_getElem? hk
  have hok := H.ok p hpm
  have hlt : k < ps.length := (List.getElem?_eq_some_iff.1 hk).1
  refine (grow_any pk (k * 5) cur p.B base (cont p) p.id p.G w hok.b H.b hc c0 c1 c3 hok.i0 (by have := hok.i1; omega) (by rw [cont_len]; exact hok.len)).mono fun e w' h => ?_
  obtain ⟨h1, G, h2, h3, h4, h5, h6⟩ := h
  refine ⟨h1, G, book_set H hk { p with G := G, gr := true } rfl ?_ h5 cur _ hc h4 (by simp) ?_ ?_, h5, h6⟩
  · exact ⟨h2, fun e => by simp [hd] at e, fun _ => h3, hok.i0, hok.i1, hok.len, fun _ => hd⟩
  · rw [row_set ht (by omega)]
    exact rows_set ps k p _ 1 G hk (by decide) rfl
  · intro i r hi hne j hj hh
    rcases hh with e | ⟨_, e⟩ | ⟨e, _⟩
    · exact H.sep i k r p hi hk hne j hj (.inl e)
    · rcases h6 with h | ⟨g', h, h'⟩
      · exact H.sep i k r p hi hk hne j hj (.inl (h.symm.trans e))
      · have hlt := ((H.ok r (List.mem_of_getElem? hi)).b.lt j hj).2
        rw [h] at e
        obtain rfl := Option.some.inj e
        omega
    · simp [hd] at e

theorem wpList_make_cap {P : Program} (w : World) {ops : Array Oper} {rest : List Oper} {o : Oper} {a : Act} {Q : Exit → Act → World → Prop}
    (hg : o.guard = none) (l c : Operand) (t : TypeId) (hop : o.op = Op.makeSlice t l c)
    (e : TypeId) (i : TypeInfo) (z : Value) (h1 : P.underlying t = some (.slice e)) (h2 : P.info? e = some i) (h3 : i.zero = some z) (h4 : i.size = 1) (h5 : z.cells = #[z]) (bytes : Nat) (h6 : i.bytes = bytes)
    (kl kc : IntKind) (L C : Int) (n m : Nat) (hl : a.eval l = .int kl L) (hc : a.eval c = .int kc C) (hL : L = (n : Int)) (hC : C = (m : Int)) (hnm : n ≤ m) (b2 : bytes * m ≤ 281474976710656) (b3 : m ≤ 9223372036854775807)
    (hK : ∀ w', Hid (w'.heap[w.heap.size]? = some (.cells (List.replicate m z).toArray e (0, 0))) → w'.heap.size = w.heap.size + 1 → Below w.heap.size w w' → wpList P ops Q rest (a.put o.dst (.slice (some ⟨w.heap.size, 0, none⟩) n m)) w') :
    wpList P ops Q (o :: rest) a w := by
  refine wpList_plain hg fun K hK' => ?_
  subst h6
  have hrun := run_make (P := P) w t e i z h1 h2 h3 kl kc L C (by omega) (by omega) (by rw [hC, show (i.bytes : Int) * (m : Int) = ((i.bytes * m : Nat) : Int) from by push_cast; rfl]; omega) (by omega)
  have hm : madeCells z.cells (C.toNat * i.size) = (List.replicate m z).toArray := by
    rw [h5, h4, hC]
    simp only [Int.toNat_natCast, Nat.mul_one]
    rw [← toList_madeCells_one, Array.toArray_toList]
  rw [hm] at hrun
  have hLn : L.toNat = n := by omega
  have hCn : C.toNat = m := by omega
  rw [hLn, hCn] at hrun
  unfold Oper.wp
  simp [execOp, hop, hl, hc, hrun, Result.andThen]
  exact hK' _ _ (hK _ (heap_alloc_new w _) (by simp) ((Below.refl _ _).alloc (Nat.le_refl _) _))

theorem info_bool : (Tryz.prog.info? 4).map (fun i => (i.zero, i.size, i.bytes)) = some (some (.bool false), 1, 1) := by kernel_rfl

def midL (ps : List Pg) (k : Nat) : List Pg := ps.mapIdx fun i p => if i < k then fillP p else p
theorem midL_len (ps : List Pg) (k : Nat) : (midL ps k).length = ps.length := by simp [midL]
theorem midL_get (ps : List Pg) (k i : Nat) (p : Pg) (h : ps[i]? = some p) : (midL ps k)[i]? = some (if i < k then fillP p else p) := by simp [midL, h]
theorem midL_zero (ps : List Pg) : midL ps 0 = ps := by
  apply List.ext_getElem?
  intro i
  cases h : ps[i]? with
  | none => simp [midL, h]
  | some p => rw [midL_get ps 0 i p h]; simp
theorem midL_step (ps : List Pg) (k : Nat) (p : Pg) (h : ps[k]? = some p) : (midL ps k).set k (fillP p) = midL ps (k + 1) := by
  have hk : k < ps.length := (List.getElem?_eq_some_iff.1 h).1
  apply List.ext_getElem?
  intro i
  rw [List.getElem?_set, midL_len]
  by_cases e : k = i
  · subst e
    rw [if_pos rfl, if_pos hk, midL_get ps (k + 1) k p h, if_pos (by omega)]
  · rw [if_neg e]
    cases h2 : ps[i]? with
    | none => simp [midL, h2]
    | some r =>
      rw [midL_get ps k i r h2, midL_get ps (k + 1) i r h2]
      by_cases h3 : i < k
      · rw [if_pos h3, if_pos (by omega)]
      · rw [if_neg h3, if_neg (by omega)]
theorem midL_same (ps : List Pg) (k : Nat) (p : Pg) (h : ps[k]? = some p) (hd : p.dn = true) : midL ps (k + 1) = midL ps k := by
  rw [← midL_step ps k p h]
  have : fillP p = p := by unfold fillP; rw [hd]; rfl
  rw [this]
  apply List.ext_getElem?
  intro i
  rw [List.getElem?_set]
  by_cases e : k = i
  · subst e
    have hk : k < ps.length := (List.getElem?_eq_some_iff.1 h).1
    rw [if_pos rfl, if_pos (by rw [midL_len]; exact hk), midL_get ps k k p h, if_neg (by omega)]
  · rw [if_neg e]

def frs (ps : List Pg) (k : Nat) : List Value := ps.mapIdx fun i p => Value.bool (if i < k then !p.dn else false)
theorem frs_len (ps : List Pg) (k : Nat) : (frs ps k).length = ps.length := by simp [frs]
theorem frs_get (ps : List Pg) (k i : Nat) (p : Pg) (h : ps[i]? = some p) : (frs ps k)[i]? = some (.bool (if i < k then !p.dn else false)) := by simp [frs, h]
theorem frs_zero (ps : List Pg) : frs ps 0 = List.replicate ps.length (.bool false) := by
  apply List.ext_getElem?
  intro i
  cases h : ps[i]? with
  | none =>
    have : ps.length ≤ i := List.getElem?_eq_none_iff.1 h
    simp [frs, h, List.getElem?_replicate]; omega
  | some p =>
    have : i < ps.length := (List.getElem?_eq_some_iff.1 h).1
    rw [frs_get ps 0 i p h]; simp [this]
theorem frs_set (ps : List Pg) (k : Nat) (p : Pg) (h : ps[k]? = some p) : (frs ps k).set k (.bool (!p.dn)) = frs ps (k + 1) := by
  have hk : k < ps.length := (List.getElem?_eq_some_iff.1 h).1
  apply List.ext_getElem?
  intro i
  rw [List.getElem?_set, frs_len]
  by_cases e : k = i
  · subst e
    rw [if_pos rfl, if_pos hk, frs_get ps (k + 1) k p h, if_pos (by omega)]
  · rw [if_neg e]
    cases h2 : ps[i]? with
    | none => simp [frs, h2]
    | some r =>
      rw [frs_get ps k i r h2, frs_get ps (k + 1) i r h2]
      by_cases h3 : i < k
      · rw [if_pos h3, if_pos (by omega)]
      · rw [if_neg h3, if_neg (by omega)]

def FrRow (w : World) (fb n : Nat) (xs : List Value) : Prop := w.ownsRow fb 4 1 (.slice (some ⟨fb, 0, none⟩) n n) n xs
theorem FrRow.blk {w : World} {fb n : Nat} {xs : List Value} (h : FrRow w fb n xs) : ∃ cur, w.heap[fb]? = some (.cells cur 4 (0, 0)) := owns_type h rfl

theorem book_fr {w w' : World} {base kb fb n : Nat} {vp : Value} {nx : Int} {ps : List Pg} {xs : List Value} (H : BookIs w base kb vp nx ps) (hf : FrRow w fb n xs) (hK : Kept w w' (fun j => j = fb)) : BookIs w' base kb vp nx ps := by
  obtain ⟨cur, hcur⟩ := hf.blk
  refine H.kept hK (fun e => ?_) (fun k hk e => ?_) (fun p hp k hk e => ?_)
  · subst e; exact apart_types hcur H.k (by decide)
  · subst e
    obtain ⟨c2, hc2⟩ := owns_type H.o hk
    exact apart_types hcur hc2 (by decide)
  · subst e
    obtain ⟨c2, hc2⟩ := holds_type (H.ok p hp) hk
    exact apart_types hcur hc2 (by decide)

theorem fr_book {w w' : World} {base kb fb n pk m cp k : Nat} {nx : Int} {ps : List Pg} {p : Pg} {xs : List Value} (H : BookIs w base kb (.slice (some ⟨pk, 0, none⟩) m cp) nx ps) (hk : ps[k]? = some p) (hf : FrRow w fb n xs) (hK : Kept w w' (fun j => j = pk ∨ some j = p.B.ownBlock)) : FrRow w' fb n xs := by
  obtain ⟨cur, hcur⟩ := hf.blk
  refine hK.owns hf (fun j hj hP => ?_)
  have e : j = fb := by simp [Value.ownBlock] at hj; exact hj.symm
  subst e
  rcases hP with e | e
  · subst e
    obtain ⟨c2, hc2⟩ := owns_type H.o rfl
    exact apart_types hcur hc2 (by decide)
  · obtain ⟨c2, hc2⟩ := holds_type (H.ok p (List.mem_of_getElem? hk)) (.inl e.symm)
    exact apart_types hcur hc2 (by decide)

theorem fr_store {wr : World} {fb n k : Nat} {xs : List Value} (h : FrRow wr fb n xs) (v : Value) : FrRow (wr.setCell ⟨fb, k, none⟩ v) fb n (xs.set k v) ∧ Kept wr (wr.setCell ⟨fb, k, none⟩ v) (fun j => j = fb) := by
  have hs := World.ownsRow.stored h k v
  exact ⟨hs.1, (Kept.ofGrown hs.2).mono (fun j _ h => by simpa using h)⟩

theorem fill_page' (base kb pk cp n : Nat) (nx : Int) (ps : List Pg) (k : Nat) (p : Pg) (w : World) (hn : ps.length = n) (H : BookIs w base kb (.slice (some ⟨pk, 0, none⟩) n cp) nx ps) (hk : ps[k]? = some p) (hd : p.dn = false) :
    Calls Tryz.prog 37 #[.pointer (some ⟨pk, k * 5, none⟩)] w fun e w' => e = .returned (.tuple #[]) ∧ BookIs w' base kb (.slice (some ⟨pk, 0, none⟩) n cp) nx (ps.set k (fillP p)) ∧ Kept w w' (fun j => j = pk ∨ some j = p.B.ownBlock) := by
  subst hn; exact fill_page base kb pk cp nx ps k p w H hk hd

theorem grow_page' (base kb pk cp n : Nat) (nx : Int) (ps : List Pg) (k : Nat) (p : Pg) (w : World) (hn : ps.length = n) (H : BookIs w base kb (.slice (some ⟨pk, 0, none⟩) n cp) nx ps) (hk : ps[k]? = some p) (hd : p.dn = true) :
    Calls Tryz.prog 38 #[.pointer (some ⟨pk, k * 5, none⟩)] w fun e w' => e = .returned (.tuple #[]) ∧ ∃ G, BookIs w' base kb (.slice (some ⟨pk, 0, none⟩) n cp) nx (ps.set k { p with G := G, gr := true }) ∧ Kept w w' (fun j => j = pk ∨ some j = p.B.ownBlock) ∧ (G.ownBlock = p.B.ownBlock ∨ ∃ g', G.ownBlock = some g' ∧ w.heap.size ≤ g') := by
  subst hn; exact grow_page base kb pk cp nx ps k p w H hk hd

end Go.Proofs.YtjgjpepmfiklfaaGreatDoor.Bk
