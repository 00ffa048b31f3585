import Derived.Test.YtfbgoidhgkcgjaaAa
import Derived.Laws.BitsAllLaws
import Derived.Laws.BytesArg
import Derived.Deep.DeepCutAuto
namespace Go.Proofs.Ytfbgoidhgkcgjaa.Ln
open Go.RowKit Mb
set_option linter.unusedVariables false
set_option maxRecDepth 100000
set_option linter.unusedSimpArgs false

def By (bs : List Int) : Prop := ∀ i, 0 ≤ bs.getD i 0 ∧ bs.getD i 0 ≤ 255
theorem By.mem {bs : List Int} (h : By bs) : ∀ x ∈ bs, 0 ≤ x ∧ x ≤ 255 := by
  intro x hx
  obtain ⟨i, hi, rfl⟩ := List.mem_iff_getElem.1 hx
  have := h i
  simpa [List.getD, hi] using this
theorem By.of {bs : List Int} (h : ∀ x ∈ bs, 0 ≤ x ∧ x ≤ 255) : By bs := by
  intro i
  by_cases hi : i < bs.length
  · have := h bs[i] (List.getElem_mem hi)
    simpa [List.getD, hi] using this
  · simp [List.getD, List.getElem?_eq_none (by omega : bs.length ≤ i)]
theorem By.nil : By [] := By.of (by simp)
theorem By.append {a b : List Int} (h : By a) (k : By b) : By (a ++ b) := By.of fun x hx => (List.mem_append.1 hx).elim (h.mem x) (k.mem x)
theorem By.take {a : List Int} (h : By a) (n : Nat) : By (a.take n) := By.of fun x hx => h.mem x (List.mem_of_mem_take hx)
theorem By.drop {a : List Int} (h : By a) (n : Nat) : By (a.drop n) := By.of fun x hx => h.mem x (List.mem_of_mem_drop hx)
section
variable {w w' W : World} {B : Nat}
def inR (lo hi x : Int) : Bool := decide (lo ≤ x) && decide (x ≤ hi)
theorem inR_t {a b x : Int} (h1 : a ≤ x) (h2 : x ≤ b) : inR a b x = true := by simp [inR, h1, h2]
theorem inR_f {a b x : Int} (h : ¬ (a ≤ x ∧ x ≤ b)) : inR a b x = false := by
  simp [inR]; omega
def byts (bs : List Int) : List Value := bs.map (Value.int .u8)
theorem byts_len (bs : List Int) : (byts bs).length = bs.length := by simp [byts]
theorem byts_one (bs : List Int) : ∀ u ∈ byts bs, u.oneCell' = true := by
  intro u hu
  obtain ⟨_, _, rfl⟩ := List.mem_map.1 hu
  rfl
theorem byts_at (bs : List Int) (i : Nat) (h : i < bs.length) : (byts bs)[i]? = some (.int .u8 (bs.getD i 0)) := by simp [byts, List.getD, h]
theorem byts_app (a b : List Int) : byts (a ++ b) = byts a ++ byts b := by simp [byts]
structure Rd (w : World) (ao : Option Addr) (n c : Nat) (bs : List Int) : Prop where
  len : bs.length = n
  cap : n ≤ c
  nil : ao = none → c = 0
  at_ : n = 0 ∨ ∃ b off, ao = some ⟨b, off, none⟩ ∧ ∀ i, i < n → w.cell? ⟨b, off + i, none⟩ = some (.int .u8 (bs.getD i 0))
  by_ : By bs
theorem Rd.still {ao : Option Addr} {n c : Nat} {bs : List Int} (h : Rd w ao n c bs) (hb : Below w.heap.size w w') : Rd w' ao n c bs :=
  ⟨h.len, h.cap, h.nil, h.at_.elim .inl fun ⟨b, off, h1, h2⟩ => .inr ⟨b, off, h1, fun i hi => below_at hb (h2 i hi)⟩, h.by_⟩
def In (ao : Option Addr) (P : Nat → Prop) : Prop := ∀ b off, ao = some ⟨b, off, none⟩ → P b
theorem kept_cell {P : Nat → Prop} {b i : Nat} {v : Value} (k : Kept w w' P) (hp : ¬ P b) (h : w.cell? ⟨b, i, none⟩ = some v) : w'.cell? ⟨b, i, none⟩ = some v := by
  have hl := World.block_lt_of_cell? w _ h
  have := k.block b hl hp
  rw [← h]
  simp [World.cell?, this]
theorem Rd.keep {P : Nat → Prop} {ao : Option Addr} {n c : Nat} {bs : List Int} (h : Rd w ao n c bs) (k : Kept w w' P) (hp : In ao fun b => ¬ P b) : Rd w' ao n c bs :=
  ⟨h.len, h.cap, h.nil, h.at_.elim .inl fun ⟨b, off, h1, h2⟩ => .inr ⟨b, off, h1, fun i hi => kept_cell k (hp b off h1) (h2 i hi)⟩, h.by_⟩
theorem rd_nil (w : World) : Rd w none 0 0 [] := ⟨rfl, Nat.le_refl _, fun _ => rfl, .inl rfl, By.nil⟩
theorem Rd.nil' {ao : Option Addr} {c : Nat} {bs : List Int} (h : Rd w ao 0 c bs) : bs = [] := List.eq_nil_of_length_eq_zero h.len
theorem Rd.news {ao : Option Addr} {n c : Nat} {bs : List Int} (h : Rd w ao n c bs) : ∀ ad, ao = some ad → ∀ j u, (byts bs)[j]? = some u → w.cell? (ad.add j) = some u := fun ad he j u hu => by
  have hj : j < bs.length := by have := (List.getElem?_eq_some_iff.1 hu).1; rwa [byts_len] at this
  rcases h.at_ with h0 | ⟨b, off, h1, h2⟩
  · have := h.len; omega
  · rw [h1] at he
    cases he
    rw [Addr.add_mid, h2 j (by have := h.len; omega)]
    rw [byts_at bs j hj] at hu
    exact hu
def Bk (w : World) (g : Nat) (bs : List Int) : Prop := w.heap[g]? = some (.cells (byts bs).toArray 5 (0, 0))
theorem Bk.keep {P : Nat → Prop} {g : Nat} {bs : List Int} (h : Bk w g bs) (k : Kept w w' P) (hp : ¬ P g) : Bk w' g bs := k.obj h hp
theorem Bk.still {g : Nat} {bs : List Int} (h : Bk w g bs) (hb : Below w.heap.size w w') : Bk w' g bs := (hb.block _ (lt_heap h)).trans h
theorem Bk.lt {g : Nat} {bs : List Int} (h : Bk w g bs) : g < w.heap.size := lt_heap h
theorem Bk.cell {g : Nat} {bs : List Int} (h : Bk w g bs) {i : Nat} (hi : i < bs.length) : w.cell? ⟨g, i, none⟩ = some (.int .u8 (bs.getD i 0)) := by
  rw [blk_cell h i, List.getElem?_toArray, byts_at bs i hi]
theorem Bk.fz {g : Nat} {bs : List Int} (h : Bk w g bs) (i : Nat) : w.frozen? ⟨g, i, none⟩ = false := frozen_of_row w _ i _ _ h
theorem Bk.set {g : Nat} {bs : List Int} (h : Bk w g bs) (i : Nat) (x : Int) : Bk (w.setCell ⟨g, i, none⟩ (.int .u8 x)) g (bs.set i x) := by
  refine blk_set h ?_
  simp [byts, List.map_set]
theorem Bk.rd {g : Nat} {bs : List Int} (h : Bk w g bs) (o n c : Nat) (hn : o + n ≤ bs.length) (hc : n ≤ c) (hb : By bs) : Rd w (some ⟨g, o, none⟩) n c ((bs.drop o).take n) := by
  refine ⟨by rw [List.length_take, List.length_drop]; omega, hc, by simp, .inr ⟨g, o, rfl, fun i hi => ?_⟩, (hb.drop o).take n⟩
  rw [h.cell (by omega)]
  congr 2
  simp [List.getD, hi]
theorem Bk.all {g : Nat} {bs : List Int} (h : Bk w g bs) (c : Nat) (hc : bs.length ≤ c) (hb : By bs) : Rd w (some ⟨g, 0, none⟩) bs.length c bs := by
  have := h.rd 0 bs.length c (by omega) hc hb
  simpa using this
theorem bk_ne {a b t : Nat} {bs : List Int} {C : Array Value} (h : Bk w a bs) (h' : w.heap[b]? = some (.cells C t (0, 0))) (ht : t ≠ 5) : a ≠ b := by
  rintro rfl
  unfold Bk at h
  rw [h] at h'
  simp at h'
  exact ht h'.2.symm
theorem byte_info : ∃ i : TypeInfo, Try.prog.info? 5 = some i ∧ i.zero = some (.int .u8 0) ∧ i.size = 1 ∧ i.bytes = 1 := by
  have h : (Try.prog.info? 5).map (fun i => (i.zero, i.size, i.bytes)) = some (some (.int .u8 0), 1, 1) := by kernel_rfl
  cases hq : Try.prog.info? 5 with
  | none => rw [hq] at h; cases h
  | some i => rw [hq] at h; simp at h; exact ⟨i, rfl, h.1, h.2.1, h.2.2⟩
def Own (w : World) (base : Nat) (v : Value) (bs : List Int) : Prop := w.ownsRow base 5 1 v bs.length (byts bs)
theorem Own.keep {P : Nat → Prop} {base : Nat} {v : Value} {bs : List Int} (h : Own w base v bs) (k : Kept w w' P) (hp : ∀ g, v.ownBlock = some g → ¬ P g) : Own w' base v bs := Kept.owns k h hp
theorem Own.still {base : Nat} {v : Value} {bs : List Int} (h : Own w base v bs) (hb : Below w.heap.size w w') : Own w' base v bs := own_still h hb
theorem Own.shape {base : Nat} {v : Value} {bs : List Int} (h : Own w base v bs) : ∃ a c, v = .slice a bs.length c ∧ ((a = none ∧ bs = [] ∧ c = 0) ∨ ∃ g, a = some ⟨g, 0, none⟩ ∧ base ≤ g ∧ bs.length ≤ c) := by
  rcases h.2 with ⟨h1, h2⟩ | ⟨g, cap, cur, hv, hg, hh, hr⟩
  · have : bs = [] := List.eq_nil_of_length_eq_zero h2
    subst this
    exact ⟨none, 0, h1, .inl ⟨rfl, rfl, rfl⟩⟩
  · exact ⟨_, _, hv, .inr ⟨g, rfl, hg, hr.1⟩⟩
theorem Own.cell {base g c : Nat} {bs : List Int} (h : Own w base (.slice (some ⟨g, 0, none⟩) bs.length c) bs) {i : Nat} (hi : i < bs.length) : w.cell? ⟨g, i, none⟩ = some (.int .u8 (bs.getD i 0)) := by
  rw [World.ownsRow.cellAt h i (by omega), byts_at bs i hi]
theorem Own.rd {base : Nat} {a : Option Addr} {n c : Nat} {bs : List Int} (h : Own w base (.slice a n c) bs) (hb : By bs) : Rd w a n c bs := by
  obtain ⟨a', c', hv, hs⟩ := h.shape
  simp at hv
  obtain ⟨rfl, rfl, rfl⟩ := hv
  rcases hs with ⟨rfl, rfl, rfl⟩ | ⟨g, rfl, h1, h2⟩
  · exact rd_nil w
  · exact ⟨rfl, h2, by simp, .inr ⟨g, 0, rfl, fun i hi => by rw [Nat.zero_add]; exact h.cell hi⟩, hb⟩
theorem own_zero (w : World) (base : Nat) : Own w base (.slice none 0 0) [] := ⟨rfl, .inl ⟨rfl, rfl⟩⟩
theorem byts_rep (n : Nat) : byts (List.replicate n 0) = List.replicate n (.int .u8 0) := by simp [byts]
theorem step_make {ops : Array Oper} {o : Oper} {a : Act} {K : Act → World → Prop} {Q : Exit → Act → World → Prop} {E : Prop} (hgd : o.guard = none) (l c : Operand) (ho : o.op = .makeSlice 45 l c) (n : Nat) (hl : a.eval l = .int .i64 (n : Int)) (hc : a.eval c = .int .i64 (n : Int)) (hn : n ≤ 1000000)
    (h : ∀ w', Bk w' w.heap.size (List.replicate n 0) → Below w.heap.size w w' → K (a.put o.dst (.slice (some ⟨w.heap.size, 0, none⟩) n n)) w') : if Region.wanted o (yielded ops a.tmps) = true then Oper.wp Try.prog o a w K Q else E := by
  have hw : Region.wanted o (yielded ops a.tmps) = true := by simp [Region.wanted, hgd]
  rw [if_pos hw]
  obtain ⟨si, shi, shz0, shz1, shz2⟩ := byte_info
  have hrun := run_make (P := Try.prog) w 45 5 si (.int .u8 0) Try.underlying45 shi shz0 .i64 .i64 n n (by omega) (Int.le_refl _) (by rw [shz2]; omega) (by omega)
  simp only [Int.toNat_natCast, shz1, Nat.mul_one] at hrun
  unfold Oper.wp
  simp [execOp, ho, hl, hc, hrun, Result.andThen]
  refine h _ ?_ ((Below.refl _ _).alloc (Nat.le_refl _) _)
  unfold Bk
  rw [heap_alloc_new, byts_rep]
  congr 2
  apply Array.ext'
  rw [List.toList_toArray]
  exact toList_madeCells_one _ _
theorem kset_row {P : Nat → Prop} (w : World) (g : Nat) (cs : Array Value) (hp : P g) : Kept w (w.setRow g cs) P :=
  ⟨rfl, rfl, rfl, by simp [World.setRow], fun j hj hq => setRow_other w g j cs (fun e => hq (by subst e; exact hp))⟩
def spl (L : List Int) (off : Nat) (xs : List Int) : List Int := L.take off ++ xs ++ L.drop (off + xs.length)
theorem spl_len (L : List Int) (off : Nat) (xs : List Int) (h : off + xs.length ≤ L.length) : (spl L off xs).length = L.length := by simp [spl]; omega
theorem spl_by {L xs : List Int} (off : Nat) (h : By L) (k : By xs) : By (spl L off xs) := ((h.take _).append k).append (h.drop _)
theorem spl_take (L : List Int) (off : Nat) (xs : List Int) (h : off + xs.length ≤ L.length) : (spl L off xs).take (off + xs.length) = L.take off ++ xs := by
  unfold spl
  rw [List.take_append_of_le_length (by simp; omega), List.take_of_length_le (by simp; omega)]
theorem step_copy {ops : Array Oper} {o : Oper} {a : Act} {K : Act → World → Prop} {Q : Exit → Act → World → Prop} {E : Prop} (hgd : o.guard = none) (d s : Operand) (ho : o.op = .call { callee := .builtin .copy, args := #[d, s], argTypes := #[45, 45] })
    (dp sp : Option Addr) (dLen dCap sLen sCap : Nat) (hd : a.eval d = .slice dp dLen dCap) (hs : a.eval s = .slice sp sLen sCap) {g off : Nat} {L xs : List Int} (hb : Bk w g L) (hr : Rd w sp sLen sCap xs) (hm : sLen ≤ dLen) (hdp : 0 < sLen → dp = some ⟨g, off, none⟩) (hfit : off + sLen ≤ L.length)
    (h : ∀ w', Bk w' g (spl L off xs) → Kept w w' (fun k => k = g) → K (a.put o.dst (.int .i64 (sLen : Int))) w') : if Region.wanted o (yielded ops a.tmps) = true then Oper.wp Try.prog o a w K Q else E := by
  have hw : Region.wanted o (yielded ops a.tmps) = true := by simp [Region.wanted, hgd]
  rw [if_pos hw]
  have hsz : (Try.prog.info? 5).map (·.size) = some 1 := by kernel_rfl
  have hl := hr.len
  by_cases h0 : sLen = 0
  · subst h0
    obtain rfl := hr.nil'
    have hrun := run_copy_none (P := Try.prog) w 45 45 o.type 5 dp sp dLen dCap 0 sCap Try.underlying45 hsz (by simp)
    unfold Oper.wp
    simp [execOp, ho, resolve, invoke, builtin, hd, hs, hrun, Result.andThen]
    exact h w (by simpa [spl] using hb) (Kept.refl _ _)
  · obtain rfl := hdp (by omega)
    rcases hr.at_ with h1 | ⟨b', off', rfl, hc⟩
    · omega
    · have hrun := run_copy_row (P := Try.prog) w 45 45 o.type 5 g off dLen dCap ⟨b', off', none⟩ sLen sCap (byts L).toArray 5 (byts xs) Try.underlying45 hsz hb (by rw [byts_len, hl]; simp [Nat.min_def]; omega) (hr.news _ rfl) (by simp [byts_len]; omega) (byts_one xs)
      have e : ((byts L).toArray.toList.take off ++ byts xs ++ (byts L).toArray.toList.drop (off + (byts xs).length)) = byts (spl L off xs) := by
        simp [byts, spl, List.map_take, List.map_drop]
      rw [e] at hrun
      unfold Oper.wp
      simp [execOp, ho, resolve, invoke, builtin, hd, hs, hrun, Result.andThen]
      have hlen : (byts xs).length = sLen := by rw [byts_len, hl]
      rw [hlen]
      exact h _ (setRow_heap w g _ _ _ _ hb) (kset_row _ _ _ rfl)
theorem rows_info : ∃ i : TypeInfo, Try.prog.info? 45 = some i ∧ i.zero = some (.slice none 0 0) ∧ i.size = 1 ∧ i.bytes = 24 := by
  have h : (Try.prog.info? 45).map (fun i => (i.zero, i.size, i.bytes)) = some (some (.slice none 0 0), 1, 24) := by kernel_rfl
  cases hq : Try.prog.info? 45 with
  | none => rw [hq] at h; cases h
  | some i => rw [hq] at h; simp at h; exact ⟨i, rfl, h.1, h.2.1, h.2.2⟩
theorem wl_makeB {ops : Array Oper} {rest : List Oper} {o : Oper} {a : Act} {Q : Exit → Act → World → Prop} (hg : o.guard = none) (l c : Operand) (hop : o.op = Op.makeSlice 45 l c) (x y : Int) (n : Nat) (hl : a.eval l = .int .i64 x) (hc : a.eval c = .int .i64 y) (hx : x = (n : Int)) (hy : y = (n : Int)) (hn : n ≤ 1000000)
    (h : ∀ w', Bk w' w.heap.size (List.replicate n 0) → Below w.heap.size w w' → wpList Try.prog ops Q rest (a.put o.dst (.slice (some ⟨w.heap.size, 0, none⟩) n n)) w') : wpList Try.prog ops Q (o :: rest) a w := by
  obtain ⟨si, shi, shz0, shz1, shz2⟩ := byte_info
  refine wpList_make_full w hg l c 45 hop w.heap.size 5 si (.int .u8 0) 1 Try.underlying45 shi shz0 shz1 .i64 .i64 x y n hl hc hx hy (by rw [shz2]; omega) (by unfold maxLen; omega) (Nat.le_refl _) fun w1 hown hgrow => h w1 ?_ ((Below.refl _ w).grown hgrow (Nat.le_refl _) (fun k hk => by cases hk))
  rcases hown.2 with ⟨h3, _⟩ | ⟨g, cap, cur, hv, hg, hh, hr1, hr2, hr3, hr4⟩
  · cases h3
  · simp at hv
    obtain ⟨hg', rfl⟩ := hv
    subst hg'
    unfold Bk
    rw [hh, byts_rep]
    have e : cur.toList = List.replicate n (.int .u8 0) := by
      have := hr4
      rw [List.take_of_length_le (by simp [hr3])] at this
      rw [this]
      simp only [Nat.mul_one]
      exact toList_madeCells_one _ _
    have : cur = (List.replicate n (Value.int .u8 0)).toArray := Array.ext' (by rw [e])
    rw [this]
theorem own_ty {base e s n g : Nat} {v : Value} {l : List Value} (h : w.ownsRow base e s v n l) (hg : v.ownBlock = some g) : ∃ C, w.heap[g]? = some (.cells C e (0, 0)) := by
  rcases h.2 with ⟨h1, _⟩ | ⟨g', cap, cur, hv, _, hh, _⟩
  · rw [h1] at hg; cases hg
  · rw [hv] at hg
    simp [Value.ownBlock] at hg
    subst hg
    exact ⟨cur, hh⟩
theorem at_load {ops : Array Oper} {rest : List Oper} {o : Oper} {a : Act} {Q : Exit → Act → World → Prop} (ty : TypeId) (x : Operand) (ho : o.op = .load ty x) (h : wpList Try.prog ops Q (o :: rest) a w) : wpList Try.prog ops Q (o :: rest) a w := h
theorem load_mid {ops : Array Oper} {rest : List Oper} {o : Oper} {a : Act} {Q : Exit → Act → World → Prop} (ty : TypeId) (x : Operand) {b off : Nat} {cs : List Value} (hc : w.rangeAt b off cs) (d : TypeDesc) (hu : Try.prog.underlying ty = some d) (hd : d.isRow = true) (hi : (Try.prog.info? ty).map (·.size) = some cs.length)
    (ho : o.op = .load ty x) (hx : a.eval x = .pointer (some ⟨b, off, none⟩)) (hw : Region.wanted o (yielded ops a.tmps) = true) (h : wpList Try.prog ops Q rest (a.put o.dst (.agg cs.toArray)) w) : wpList Try.prog ops Q (o :: rest) a w :=
  wpList_step fun K hK => by
    rw [if_pos hw]
    exact wp_load_mid ty x ho b off hx cs d hc hu hd hi (hK _ _ h)
theorem store_midL {ops : Array Oper} {rest : List Oper} {o : Oper} {a : Act} {Q : Exit → Act → World → Prop} (ty : TypeId) (x y : Operand) {b off : Nat} {L : List Value} (ht : w.there b off L.length) (hi : (Try.prog.info? ty).map (·.size) = some L.length) (h1 : ∀ u ∈ L, u.oneCell' = true)
    (ho : o.op = .store ty x y) (hx : a.eval x = .pointer (some ⟨b, off, none⟩)) (hy : a.eval y = .agg L.toArray) (hw : Region.wanted o (yielded ops a.tmps) = true) (h : wpList Try.prog ops Q rest (a.put o.dst undef) (w.setCells b off L)) : wpList Try.prog ops Q (o :: rest) a w :=
  wpList_step fun K hK => by
    rw [if_pos hw]
    exact wp_store_mid ty x y ho b off _ hx hy (by simpa using ht) (by simpa using hi) (all_oneCell_toArray h1) (hK _ _ (by simpa using h))
theorem run_eqlop {o : Oper} {ρ : Operand → Value} {w : World} (t : TypeId) (x y : Operand) (t' : TypeId) (ho : o.op = .binOp .eql t x y t') (xs ys : Array Value) (hx : ρ x = .agg xs) (hy : ρ y = .agg ys) (hg : Try.prog.eqGuardType Try.prog.depth t = false) (r : Bool) (h : (Op.equalIn 10000 t (.agg xs) (.agg ys)).run Try.prog w = .ok r w) : (execOp ρ o).run Try.prog w = .ok (.value (.bool r)) w := by
  unfold execOp
  simp only [ho, hx, hy, Sem.run_bind, run_eqGuard_agg w .eql t x y xs ys hg, run_eql_struct, h, Result.andThen_ok, Sem.run_pure]
theorem run_neqop {o : Oper} {ρ : Operand → Value} {w : World} (t : TypeId) (x y : Operand) (t' : TypeId) (ho : o.op = .binOp .neq t x y t') (xs ys : Array Value) (hx : ρ x = .agg xs) (hy : ρ y = .agg ys) (hg : Try.prog.eqGuardType Try.prog.depth t = false) (r : Bool) (h : (Op.equalIn 10000 t (.agg xs) (.agg ys)).run Try.prog w = .ok r w) : (execOp ρ o).run Try.prog w = .ok (.value (.bool (!r))) w := by
  unfold execOp
  simp only [ho, hx, hy, Sem.run_bind, run_eqGuard_agg w .neq t x y xs ys hg, run_neq_struct, h, Result.andThen_ok, Sem.run_pure]
theorem eql_step {ops : Array Oper} {rest : List Oper} {o : Oper} {a : Act} {w : World} {Q : Exit → Act → World → Prop} (t : TypeId) (x y : Operand) (t' : TypeId) {xs ys : Array Value} {r : Bool} (h : (Op.equalIn 10000 t (.agg xs) (.agg ys)).run Try.prog w = .ok r w) (hg : Try.prog.eqGuardType Try.prog.depth t = false)
    (ho : o.op = .binOp .eql t x y t') (hx : a.eval x = .agg xs) (hy : a.eval y = .agg ys) (hw : Region.wanted o (yielded ops a.tmps) = true) (hn : wpList Try.prog ops Q rest (a.put o.dst (.bool r)) w) : wpList Try.prog ops Q (o :: rest) a w :=
  wpList_step fun K hK => by
    rw [if_pos hw]
    unfold Oper.wp
    rw [run_eqlop t x y t' ho xs ys hx hy hg r h]
    exact hK _ _ hn
theorem neq_step {ops : Array Oper} {rest : List Oper} {o : Oper} {a : Act} {w : World} {Q : Exit → Act → World → Prop} (t : TypeId) (x y : Operand) (t' : TypeId) {xs ys : Array Value} {r : Bool} (h : (Op.equalIn 10000 t (.agg xs) (.agg ys)).run Try.prog w = .ok r w) (hg : Try.prog.eqGuardType Try.prog.depth t = false)
    (ho : o.op = .binOp .neq t x y t') (hx : a.eval x = .agg xs) (hy : a.eval y = .agg ys) (hw : Region.wanted o (yielded ops a.tmps) = true) (hn : wpList Try.prog ops Q rest (a.put o.dst (.bool (!r))) w) : wpList Try.prog ops Q (o :: rest) a w :=
  wpList_step fun K hK => by
    rw [if_pos hw]
    unfold Oper.wp
    rw [run_neqop t x y t' ho xs ys hx hy hg r h]
    exact hK _ _ hn
theorem blk_ne {a b t t' : Nat} {C C' : Array Value} (h : w.heap[a]? = some (.cells C t (0, 0))) (h' : w.heap[b]? = some (.cells C' t' (0, 0))) (ht : t ≠ t') : a ≠ b := by
  rintro rfl
  rw [h] at h'
  simp at h'
  exact ht h'.2
theorem sets_list {k t : Nat} : ∀ (vs : List Value) (o : Nat) (w : World) (xs : List Value), w.heap[k]? = some (.cells xs.toArray t (0, 0)) → o + vs.length ≤ xs.length → (w.setCells k o vs).heap[k]? = some (.cells (xs.take o ++ vs ++ xs.drop (o + vs.length)).toArray t (0, 0))
  | [], o, w, xs, h, _ => by simpa [World.setCells] using h
  | y :: ys, o, w, xs, h, hl => by
      simp only [List.length_cons] at hl
      have h1 : (w.setCell ⟨k, o, none⟩ y).heap[k]? = some (.cells (xs.set o y).toArray t (0, 0)) := blk_set h (by simp)
      have := sets_list ys (o + 1) _ _ h1 (by simp; omega)
      have e : (xs.set o y).take (o + 1) ++ ys ++ (xs.set o y).drop (o + 1 + ys.length) = xs.take o ++ y :: ys ++ xs.drop (o + (y :: ys).length) := by
        rw [List.take_set, List.drop_set, if_pos (by omega), List.length_cons, show o + (ys.length + 1) = o + 1 + ys.length by omega]
        rw [List.take_add_one, List.set_append]
        simp [show ¬ o < min o xs.length by omega, show min o xs.length = o by omega, show o < xs.length by omega]
      rw [e] at this
      exact this
theorem sets_whole {k t : Nat} {C : Array Value} {L : List Value} (h : w.heap[k]? = some (.cells C t (0, 0))) (hl : C.size = L.length) : (w.setCells k 0 L).heap[k]? = some (.cells L.toArray t (0, 0)) := by
  have := sets_list (k := k) (t := t) L 0 w C.toList (by simpa using h) (by simp [hl])
  have hd : C.toList.drop L.length = [] := List.drop_eq_nil_of_le (by simp [hl])
  simpa [hd] using this
theorem blk_there {k t n : Nat} {C : Array Value} (h : w.heap[k]? = some (.cells C t (0, 0))) (hn : C.size = n) : w.there k 0 n := fun j hj => ⟨by rw [blk_cell h, Nat.zero_add]; simp [show j < C.size by omega], frozen_of_row w _ _ _ _ h⟩
theorem blk_range {k t : Nat} {L : List Value} (h : w.heap[k]? = some (.cells L.toArray t (0, 0))) : w.rangeAt k 0 L := fun j v hv => by
  rw [blk_cell h, Nat.zero_add, List.getElem?_toArray, hv]
structure WpL (ops : Array Oper) (Q : Exit → Act → World → Prop) (l : List Oper) (a : Act) (w : World) : Prop where
  out : wpList Try.prog ops Q l a w
theorem wl_step {ops : Array Oper} {rest : List Oper} {o : Oper} {a : Act} {Q : Exit → Act → World → Prop} (hw : Region.wanted o (yielded ops a.tmps) = true) (h : ∀ K : Act → World → Prop, (∀ a w, WpL ops Q rest a w → K a w) → o.wp Try.prog a w K Q) : WpL ops Q (o :: rest) a w :=
  ⟨wpList_step fun K hK => by
    rw [if_pos hw]
    exact h K (fun a w h => hK a w h.out)⟩
theorem wl_take {ops : Array Oper} {rest : List Oper} {o : Oper} {a : Act} {Q : Exit → Act → World → Prop} {v : Value} (hw : Region.wanted o (yielded ops a.tmps) = true) (hx : (execOp a.eval o).run Try.prog w = .ok (.value v) w) (h : WpL ops Q rest (a.put o.dst v) w) : WpL ops Q (o :: rest) a w :=
  wl_step hw fun K hK => by
    unfold Oper.wp
    rw [hx]
    exact hK _ _ h
theorem wl_skip {ops : Array Oper} {rest : List Oper} {o : Oper} {a : Act} {Q : Exit → Act → World → Prop} (hw : Region.wanted o (yielded ops a.tmps) = false) (h : WpL ops Q rest (a.put o.dst undef) w) : WpL ops Q (o :: rest) a w :=
  ⟨wpList_step fun K hK => by
    rw [if_neg (by rw [hw]; simp)]
    exact hK _ _ h.out⟩
theorem wl_at {ops : Array Oper} {rest : List Oper} {o : Oper} {a : Act} {Q : Exit → Act → World → Prop} (d : Nat) (hd : o.dst = some d) (h : WpL ops Q (o :: rest) a w) : wpList Try.prog ops Q (o :: rest) a w := h.out
theorem wl_load {ops : Array Oper} {rest : List Oper} {o : Oper} {a : Act} {Q : Exit → Act → World → Prop} (ty : TypeId) (x : Operand) {b off : Nat} {cs : List Value} (hc : w.rangeAt b off cs) (d : TypeDesc) (hu : Try.prog.underlying ty = some d) (hd : d.isRow = true) (hi : (Try.prog.info? ty).map (·.size) = some cs.length)
    (ho : o.op = .load ty x) (hx : a.eval x = .pointer (some ⟨b, off, none⟩)) (hw : Region.wanted o (yielded ops a.tmps) = true) (h : WpL ops Q rest (a.put o.dst (.agg cs.toArray)) w) : WpL ops Q (o :: rest) a w :=
  wl_step hw fun K hK => wp_load_mid ty x ho b off hx cs d hc hu hd hi (hK _ _ h)
theorem wl_st {ops : Array Oper} {rest : List Oper} {o : Oper} {a : Act} {Q : Exit → Act → World → Prop} (ty : TypeId) (x y : Operand) (ho : o.op = .store ty x y) (h : WpL ops Q (o :: rest) a w) : wpList Try.prog ops Q (o :: rest) a w := h.out
theorem newvar (w : World) (t : TypeId) (Z : Array Value) (L : List Value) (h : Z.size = L.length) : Below w.heap.size w ((w.alloc (.cells Z t)).setCells w.heap.size 0 L) ∧ ((w.alloc (.cells Z t)).setCells w.heap.size 0 L).heap[w.heap.size]? = some (.cells L.toArray t (0, 0)) :=
  ⟨bsets (Nat.le_refl _) _ _ (balloc (Below.refl _ _)), sets_whole (heap_alloc_new w _) h⟩
theorem new_there (w : World) (t : TypeId) (Z : Array Value) {n : Nat} (h : Z.size = n) : (w.alloc (.cells Z t)).there w.heap.size 0 n := blk_there (heap_alloc_new w _) h
theorem wl_copy {ops : Array Oper} {rest : List Oper} {o : Oper} {a : Act} {Q : Exit → Act → World → Prop} (hgd : o.guard = none) (d s : Operand) (ho : o.op = .call { callee := .builtin .copy, args := #[d, s], argTypes := #[45, 45] })
    (dp sp : Option Addr) (dLen dCap sLen sCap : Nat) (hd : a.eval d = .slice dp dLen dCap) (hs : a.eval s = .slice sp sLen sCap) {g off : Nat} {L xs : List Int} (hb : Bk w g L) (hr : Rd w sp sLen sCap xs) (hm : sLen ≤ dLen) (hdp : 0 < sLen → dp = some ⟨g, off, none⟩) (hfit : off + sLen ≤ L.length)
    (h : ∀ w', Bk w' g (spl L off xs) → Kept w w' (fun k => k = g) → wpList Try.prog ops Q rest (a.put o.dst (.int .i64 (sLen : Int))) w') : wpList Try.prog ops Q (o :: rest) a w :=
  wpList_step fun K hK => step_copy hgd d s ho dp sp dLen dCap sLen sCap hd hs hb hr hm hdp hfit fun w' h1 h2 => hK _ _ (h w' h1 h2)
theorem step_storeL {ops : Array Oper} {o : Oper} {a : Act} {K : Act → World → Prop} {Q : Exit → Act → World → Prop} {E : Prop} (hgd : o.guard = none) (ty : TypeId) (x y : Operand) (ho : o.op = .store ty x y) {b off : Nat} {L : List Value} (hx : a.eval x = .pointer (some ⟨b, off, none⟩)) (hy : a.eval y = .agg L.toArray) (ht : w.there b off L.length) (hi : (Try.prog.info? ty).map (·.size) = some L.length) (h1 : ∀ u ∈ L, u.oneCell' = true)
    (h : K (a.put o.dst undef) (w.setCells b off L)) : if Region.wanted o (yielded ops a.tmps) = true then Oper.wp Try.prog o a w K Q else E := by
  have hw : Region.wanted o (yielded ops a.tmps) = true := by simp [Region.wanted, hgd]
  rw [if_pos hw]
  exact wp_store_mid ty x y ho b off _ hx hy (by simpa using ht) (by simpa using hi) (all_oneCell_toArray h1) (by simpa using h)
theorem at_store {ops : Array Oper} {rest : List Oper} {o : Oper} {a : Act} {Q : Exit → Act → World → Prop} (ty : TypeId) (x y : Operand) (ho : o.op = .store ty x y) (h : wpList Try.prog ops Q (o :: rest) a w) : wpList Try.prog ops Q (o :: rest) a w := h
theorem wl_storeL {ops : Array Oper} {rest : List Oper} {o : Oper} {a : Act} {Q : Exit → Act → World → Prop} (hgd : o.guard = none) (ty : TypeId) (x y : Operand) (ho : o.op = .store ty x y) {b off : Nat} {L : List Value} (hx : a.eval x = .pointer (some ⟨b, off, none⟩)) (hy : a.eval y = .agg L.toArray) (ht : w.there b off L.length) (hi : (Try.prog.info? ty).map (·.size) = some L.length) (h1 : ∀ u ∈ L, u.oneCell' = true)
    (h : wpList Try.prog ops Q rest (a.put o.dst undef) (w.setCells b off L)) : wpList Try.prog ops Q (o :: rest) a w :=
  wpList_step fun K hK => step_storeL hgd ty x y ho hx hy ht hi h1 (hK _ _ h)
theorem z2_at (i : Nat) : (#[Value.int .i64 0, .slice none 0 0])[i % 2]! = [Value.int .i64 0, .slice none 0 0].getD (i % 2) undef := by
  have : i % 2 < 2 := Nat.mod_lt _ (by omega)
  generalize i % 2 = k at this
  rcases k with _ | _ | k <;> first | rfl | omega
end
end Go.Proofs.Ytfbgoidhgkcgjaa.Ln
