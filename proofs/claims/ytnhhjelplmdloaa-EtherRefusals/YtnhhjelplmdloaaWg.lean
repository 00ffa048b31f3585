import Derived.Test.YtnhhjelplmdloaaWf
import Derived.Laws.BitsAllLaws
import Derived.Laws.BytesArg
import Derived.Deep.DeepCutAuto
import Derived.ChangeKeysEq
import Derived.Laws.Tables
import Derived.Deep.RegionHeld3
namespace Go.Proofs.Ytnhhjelplmdloaa.Ln
open Go.RowKit Mb
set_option linter.unusedVariables false
set_option maxRecDepth 100000
set_option linter.unusedSimpArgs false
def By (bs : List Int) : Prop := ∀ i, 0 ≤ bs.getD i 0 ∧ bs.getD i 0 ≤ 255
theorem By.mem {bs : List Int} (h : By bs) : ∀ x ∈ bs, 0 ≤ x ∧ x ≤ 255 := by
  intro x hx
  obtain ⟨i, hi, rfl⟩ := List.mem_iff_getElem.1 hx
  have := h i
  simpa [List.getD, hi] using this
theorem By.of {bs : List Int} (h : ∀ x ∈ bs, 0 ≤ x ∧ x ≤ 255) : By bs := by
  intro i
  by_cases hi : i < bs.length
  · have := h bs[i] (List.getElem_mem hi)
    simpa [List.getD, hi] using this
  · simp [List.getD, List.getElem?_eq_none (by omega : bs.length ≤ i)]
theorem By.nil : By [] := By.of (by simp)
theorem By.append {a b : List Int} (h : By a) (k : By b) : By (a ++ b) := By.of fun x hx => (List.mem_append.1 hx).elim (h.mem x) (k.mem x)
theorem By.take {a : List Int} (h : By a) (n : Nat) : By (a.take n) := By.of fun x hx => h.mem x (List.mem_of_mem_take hx)
theorem By.drop {a : List Int} (h : By a) (n : Nat) : By (a.drop n) := By.of fun x hx => h.mem x (List.mem_of_mem_drop hx)
section
variable {w w' W : World} {B : Nat}
def inR (lo hi x : Int) : Bool := decide (lo ≤ x) && decide (x ≤ hi)
theorem inR_t {a b x : Int} (h1 : a ≤ x) (h2 : x ≤ b) : inR a b x = true := by simp [inR, h1, h2]
theorem inR_f {a b x : Int} (h : ¬ (a ≤ x ∧ x ≤ b)) : inR a b x = false := by
  simp [inR]; omega
def byts (bs : List Int) : List Value := bs.map (Value.int .u8)
theorem byts_len (bs : List Int) : (byts bs).length = bs.length := by simp [byts]
theorem byts_one (bs : List Int) : ∀ u ∈ byts bs, u.oneCell' = true := by
  intro u hu
  obtain ⟨_, _, rfl⟩ := List.mem_map.1 hu
  rfl
theorem byts_at (bs : List Int) (i : Nat) (h : i < bs.length) : (byts bs)[i]? = some (.int .u8 (bs.getD i 0)) := by simp [byts, List.getD, h]
theorem byts_app (a b : List Int) : byts (a ++ b) = byts a ++ byts b := by simp [byts]
structure Rd (w : World) (ao : Option Addr) (n c : Nat) (bs : List Int) : Prop where
  len : bs.length = n
  cap : n ≤ c
  nil : ao = none → c = 0
  at_ : n = 0 ∨ ∃ b off, ao = some ⟨b, off, none⟩ ∧ ∀ i, i < n → w.cell? ⟨b, off + i, none⟩ = some (.int .u8 (bs.getD i 0))
  by_ : By bs
theorem Rd.still {ao : Option Addr} {n c : Nat} {bs : List Int} (h : Rd w ao n c bs) (hb : Below w.heap.size w w') : Rd w' ao n c bs :=
  ⟨h.len, h.cap, h.nil, h.at_.elim .inl fun ⟨b, off, h1, h2⟩ => .inr ⟨b, off, h1, fun i hi => below_at hb (h2 i hi)⟩, h.by_⟩
def In (ao : Option Addr) (P : Nat → Prop) : Prop := ∀ b off, ao = some ⟨b, off, none⟩ → P b
theorem kept_cell {P : Nat → Prop} {b i : Nat} {v : Value} (k : Kept w w' P) (hp : ¬ P b) (h : w.cell? ⟨b, i, none⟩ = some v) : w'.cell? ⟨b, i, none⟩ = some v := by
  have hl := World.block_lt_of_cell? w _ h
  have := k.block b hl hp
  rw [← h]
  simp [World.cell?, this]
theorem Rd.keep {P : Nat → Prop} {ao : Option Addr} {n c : Nat} {bs : List Int} (h : Rd w ao n c bs) (k : Kept w w' P) (hp : In ao fun b => ¬ P b) : Rd w' ao n c bs :=
  ⟨h.len, h.cap, h.nil, h.at_.elim .inl fun ⟨b, off, h1, h2⟩ => .inr ⟨b, off, h1, fun i hi => kept_cell k (hp b off h1) (h2 i hi)⟩, h.by_⟩
theorem rd_nil (w : World) : Rd w none 0 0 [] := ⟨rfl, Nat.le_refl _, fun _ => rfl, .inl rfl, By.nil⟩
theorem Rd.nil' {ao : Option Addr} {c : Nat} {bs : List Int} (h : Rd w ao 0 c bs) : bs = [] := List.eq_nil_of_length_eq_zero h.len
theorem Rd.news {ao : Option Addr} {n c : Nat} {bs : List Int} (h : Rd w ao n c bs) : ∀ ad, ao = some ad → ∀ j u, (byts bs)[j]? = some u → w.cell? (ad.add j) = some u := fun ad he j u hu => by
  have hj : j < bs.length := by have := (List.getElem?_eq_some_iff.1 hu).1; rwa [byts_len] at this
  rcases h.at_ with h0 | ⟨b, off, h1, h2⟩
  · have := h.len; omega
  · rw [h1] at he
    cases he
    rw [Addr.add_mid, h2 j (by have := h.len; omega)]
    rw [byts_at bs j hj] at hu
    exact hu
def Bk (w : World) (g : Nat) (bs : List Int) : Prop := w.heap[g]? = some (.cells (byts bs).toArray 5 (0, 0))
theorem Bk.keep {P : Nat → Prop} {g : Nat} {bs : List Int} (h : Bk w g bs) (k : Kept w w' P) (hp : ¬ P g) : Bk w' g bs := k.obj h hp
theorem Bk.still {g : Nat} {bs : List Int} (h : Bk w g bs) (hb : Below w.heap.size w w') : Bk w' g bs := (hb.block _ (lt_heap h)).trans h
theorem Bk.lt {g : Nat} {bs : List Int} (h : Bk w g bs) : g < w.heap.size := lt_heap h
theorem Bk.cell {g : Nat} {bs : List Int} (h : Bk w g bs) {i : Nat} (hi : i < bs.length) : w.cell? ⟨g, i, none⟩ = some (.int .u8 (bs.getD i 0)) := by
  rw [blk_cell h i, List.getElem?_toArray, byts_at bs i hi]
theorem Bk.fz {g : Nat} {bs : List Int} (h : Bk w g bs) (i : Nat) : w.frozen? ⟨g, i, none⟩ = false := frozen_of_row w _ i _ _ h
theorem Bk.set {g : Nat} {bs : List Int} (h : Bk w g bs) (i : Nat) (x : Int) : Bk (w.setCell ⟨g, i, none⟩ (.int .u8 x)) g (bs.set i x) := by
  refine blk_set h ?_
  simp [byts, List.map_set]
theorem Bk.rd {g : Nat} {bs : List Int} (h : Bk w g bs) (o n c : Nat) (hn : o + n ≤ bs.length) (hc : n ≤ c) (hb : By bs) : Rd w (some ⟨g, o, none⟩) n c ((bs.drop o).take n) := by
  refine ⟨by rw [List.length_take, List.length_drop]; omega, hc, by simp, .inr ⟨g, o, rfl, fun i hi => ?_⟩, (hb.drop o).take n⟩
  rw [h.cell (by omega)]
  congr 2
  simp [List.getD, hi]
theorem Bk.all {g : Nat} {bs : List Int} (h : Bk w g bs) (c : Nat) (hc : bs.length ≤ c) (hb : By bs) : Rd w (some ⟨g, 0, none⟩) bs.length c bs := by
  have := h.rd 0 bs.length c (by omega) hc hb
  simpa using this
theorem bk_ne {a b t : Nat} {bs : List Int} {C : Array Value} (h : Bk w a bs) (h' : w.heap[b]? = some (.cells C t (0, 0))) (ht : t ≠ 5) : a ≠ b := by
  rintro rfl
  unfold Bk at h
  rw [h] at h'
  simp at h'
  exact ht h'.2.symm
theorem byte_info : ∃ i : TypeInfo, Try.prog.info? 5 = some i ∧ i.zero = some (.int .u8 0) ∧ i.size = 1 ∧ i.bytes = 1 := by
  have h : (Try.prog.info? 5).map (fun i => (i.zero, i.size, i.bytes)) = some (some (.int .u8 0), 1, 1) := by kernel_rfl
  cases hq : Try.prog.info? 5 with
  | none => rw [hq] at h; cases h
  | some i => rw [hq] at h; simp at h; exact ⟨i, rfl, h.1, h.2.1, h.2.2⟩
def Own (w : World) (base : Nat) (v : Value) (bs : List Int) : Prop := w.ownsRow base 5 1 v bs.length (byts bs)
theorem Own.keep {P : Nat → Prop} {base : Nat} {v : Value} {bs : List Int} (h : Own w base v bs) (k : Kept w w' P) (hp : ∀ g, v.ownBlock = some g → ¬ P g) : Own w' base v bs := Kept.owns k h hp
theorem Own.still {base : Nat} {v : Value} {bs : List Int} (h : Own w base v bs) (hb : Below w.heap.size w w') : Own w' base v bs := own_still h hb
theorem Own.shape {base : Nat} {v : Value} {bs : List Int} (h : Own w base v bs) : ∃ a c, v = .slice a bs.length c ∧ ((a = none ∧ bs = [] ∧ c = 0) ∨ ∃ g, a = some ⟨g, 0, none⟩ ∧ base ≤ g ∧ bs.length ≤ c) := by
  rcases h.2 with ⟨h1, h2⟩ | ⟨g, cap, cur, hv, hg, hh, hr⟩
  · have : bs = [] := List.eq_nil_of_length_eq_zero h2
    subst this
    exact ⟨none, 0, h1, .inl ⟨rfl, rfl, rfl⟩⟩
  · exact ⟨_, _, hv, .inr ⟨g, rfl, hg, hr.1⟩⟩
theorem Own.cell {base g c : Nat} {bs : List Int} (h : Own w base (.slice (some ⟨g, 0, none⟩) bs.length c) bs) {i : Nat} (hi : i < bs.length) : w.cell? ⟨g, i, none⟩ = some (.int .u8 (bs.getD i 0)) := by
  rw [World.ownsRow.cellAt h i (by omega), byts_at bs i hi]
theorem Own.rd {base : Nat} {a : Option Addr} {n c : Nat} {bs : List Int} (h : Own w base (.slice a n c) bs) (hb : By bs) : Rd w a n c bs := by
  obtain ⟨a', c', hv, hs⟩ := h.shape
  simp at hv
  obtain ⟨rfl, rfl, rfl⟩ := hv
  rcases hs with ⟨rfl, rfl, rfl⟩ | ⟨g, rfl, h1, h2⟩
  · exact rd_nil w
  · exact ⟨rfl, h2, by simp, .inr ⟨g, 0, rfl, fun i hi => by rw [Nat.zero_add]; exact h.cell hi⟩, hb⟩
theorem own_zero (w : World) (base : Nat) : Own w base (.slice none 0 0) [] := ⟨rfl, .inl ⟨rfl, rfl⟩⟩
theorem byts_rep (n : Nat) : byts (List.replicate n 0) = List.replicate n (.int .u8 0) := by simp [byts]
theorem step_make {ops : Array Oper} {o : Oper} {a : Act} {K : Act → World → Prop} {Q : Exit → Act → World → Prop} {E : Prop} (hgd : o.guard = none) (l c : Operand) (ho : o.op = .makeSlice 35 l c) (n : Nat) (hl : a.eval l = .int .i64 (n : Int)) (hc : a.eval c = .int .i64 (n : Int)) (hn : n ≤ 1000000)
    (h : ∀ w', Bk w' w.heap.size (List.replicate n 0) → Below w.heap.size w w' → K (a.put o.dst (.slice (some ⟨w.heap.size, 0, none⟩) n n)) w') : if Region.wanted o (yielded ops a.tmps) = true then Oper.wp Try.prog o a w K Q else E := by
  have hw : Region.wanted o (yielded ops a.tmps) = true := by simp [Region.wanted, hgd]
  rw [if_pos hw]
  obtain ⟨si, shi, shz0, shz1, shz2⟩ := byte_info
  have hrun := run_make (P := Try.prog) w 35 5 si (.int .u8 0) Try.underlying35 shi shz0 .i64 .i64 n n (by omega) (Int.le_refl _) (by rw [shz2]; omega) (by omega)
  simp only [Int.toNat_natCast, shz1, Nat.mul_one] at hrun
  unfold Oper.wp
  simp [execOp, ho, hl, hc, hrun, Result.andThen]
  refine h _ ?_ ((Below.refl _ _).alloc (Nat.le_refl _) _)
  unfold Bk
  rw [heap_alloc_new, byts_rep]
  congr 2
  apply Array.ext'
  rw [List.toList_toArray]
  exact toList_madeCells_one _ _
theorem kset_row {P : Nat → Prop} (w : World) (g : Nat) (cs : Array Value) (hp : P g) : Kept w (w.setRow g cs) P :=
  ⟨rfl, rfl, rfl, by simp [World.setRow], fun j hj hq => setRow_other w g j cs (fun e => hq (by subst e; exact hp))⟩
def spl (L : List Int) (off : Nat) (xs : List Int) : List Int := L.take off ++ xs ++ L.drop (off + xs.length)
theorem spl_len (L : List Int) (off : Nat) (xs : List Int) (h : off + xs.length ≤ L.length) : (spl L off xs).length = L.length := by simp [spl]; omega
theorem spl_by {L xs : List Int} (off : Nat) (h : By L) (k : By xs) : By (spl L off xs) := ((h.take _).append k).append (h.drop _)
theorem spl_take (L : List Int) (off : Nat) (xs : List Int) (h : off + xs.length ≤ L.length) : (spl L off xs).take (off + xs.length) = L.take off ++ xs := by
  unfold spl
  rw [List.take_append_of_le_length (by simp; omega), List.take_of_length_le (by simp; omega)]
theorem step_copy {ops : Array Oper} {o : Oper} {a : Act} {K : Act → World → Prop} {Q : Exit → Act → World → Prop} {E : Prop} (hgd : o.guard = none) (d s : Operand) (ho : o.op = .call { callee := .builtin .copy, args := #[d, s], argTypes := #[35, 35] })
    (dp sp : Option Addr) (dLen dCap sLen sCap : Nat) (hd : a.eval d = .slice dp dLen dCap) (hs : a.eval s = .slice sp sLen sCap) {g off : Nat} {L xs : List Int} (hb : Bk w g L) (hr : Rd w sp sLen sCap xs) (hm : sLen ≤ dLen) (hdp : 0 < sLen → dp = some ⟨g, off, none⟩) (hfit : off + sLen ≤ L.length)
    (h : ∀ w', Bk w' g (spl L off xs) → Kept w w' (fun k => k = g) → K (a.put o.dst (.int .i64 (sLen : Int))) w') : if Region.wanted o (yielded ops a.tmps) = true then Oper.wp Try.prog o a w K Q else E := by
  have hw : Region.wanted o (yielded ops a.tmps) = true := by simp [Region.wanted, hgd]
  rw [if_pos hw]
  have hsz : (Try.prog.info? 5).map (·.size) = some 1 := by kernel_rfl
  have hl := hr.len
  by_cases h0 : sLen = 0
  · subst h0
    obtain rfl := hr.nil'
    have hrun := run_copy_none (P := Try.prog) w 35 35 o.type 5 dp sp dLen dCap 0 sCap Try.underlying35 hsz (by simp)
    unfold Oper.wp
    simp [execOp, ho, resolve, invoke, builtin, hd, hs, hrun, Result.andThen]
    exact h w (by simpa [spl] using hb) (Kept.refl _ _)
  · obtain rfl := hdp (by omega)
    rcases hr.at_ with h1 | ⟨b', off', rfl, hc⟩
    · omega
    · have hrun := run_copy_row (P := Try.prog) w 35 35 o.type 5 g off dLen dCap ⟨b', off', none⟩ sLen sCap (byts L).toArray 5 (byts xs) Try.underlying35 hsz hb (by rw [byts_len, hl]; simp [Nat.min_def]; omega) (hr.news _ rfl) (by simp [byts_len]; omega) (byts_one xs)
      have e : ((byts L).toArray.toList.take off ++ byts xs ++ (byts L).toArray.toList.drop (off + (byts xs).length)) = byts (spl L off xs) := by
        simp [byts, spl, List.map_take, List.map_drop]
      rw [e] at hrun
      unfold Oper.wp
      simp [execOp, ho, resolve, invoke, builtin, hd, hs, hrun, Result.andThen]
      have hlen : (byts xs).length = sLen := by rw [byts_len, hl]
      rw [hlen]
      exact h _ (setRow_heap w g _ _ _ _ hb) (kset_row _ _ _ rfl)
theorem rows_info : ∃ i : TypeInfo, Try.prog.info? 35 = some i ∧ i.zero = some (.slice none 0 0) ∧ i.size = 1 ∧ i.bytes = 24 := by
  have h : (Try.prog.info? 35).map (fun i => (i.zero, i.size, i.bytes)) = some (some (.slice none 0 0), 1, 24) := by kernel_rfl
  cases hq : Try.prog.info? 35 with
  | none => rw [hq] at h; cases h
  | some i => rw [hq] at h; simp at h; exact ⟨i, rfl, h.1, h.2.1, h.2.2⟩
theorem wl_makeB {ops : Array Oper} {rest : List Oper} {o : Oper} {a : Act} {Q : Exit → Act → World → Prop} (hg : o.guard = none) (l c : Operand) (hop : o.op = Op.makeSlice 35 l c) (x y : Int) (n : Nat) (hl : a.eval l = .int .i64 x) (hc : a.eval c = .int .i64 y) (hx : x = (n : Int)) (hy : y = (n : Int)) (hn : n ≤ 1000000)
    (h : ∀ w', Bk w' w.heap.size (List.replicate n 0) → Below w.heap.size w w' → wpList Try.prog ops Q rest (a.put o.dst (.slice (some ⟨w.heap.size, 0, none⟩) n n)) w') : wpList Try.prog ops Q (o :: rest) a w := by
  obtain ⟨si, shi, shz0, shz1, shz2⟩ := byte_info
  refine wpList_make_full w hg l c 35 hop w.heap.size 5 si (.int .u8 0) 1 Try.underlying35 shi shz0 shz1 .i64 .i64 x y n hl hc hx hy (by rw [shz2]; omega) (by unfold maxLen; omega) (Nat.le_refl _) fun w1 hown hgrow => h w1 ?_ ((Below.refl _ w).grown hgrow (Nat.le_refl _) (fun k hk => by cases hk))
  rcases hown.2 with ⟨h3, _⟩ | ⟨g, cap, cur, hv, hg, hh, hr1, hr2, hr3, hr4⟩
  · cases h3
  · simp at hv
    obtain ⟨hg', rfl⟩ := hv
    subst hg'
    unfold Bk
    rw [hh, byts_rep]
    have e : cur.toList = List.replicate n (.int .u8 0) := by
      have := hr4
      rw [List.take_of_length_le (by simp [hr3])] at this
      rw [this]
      simp only [Nat.mul_one]
      exact toList_madeCells_one _ _
    have : cur = (List.replicate n (Value.int .u8 0)).toArray := Array.ext' (by rw [e])
    rw [this]
theorem own_ty {base e s n g : Nat} {v : Value} {l : List Value} (h : w.ownsRow base e s v n l) (hg : v.ownBlock = some g) : ∃ C, w.heap[g]? = some (.cells C e (0, 0)) := by
  rcases h.2 with ⟨h1, _⟩ | ⟨g', cap, cur, hv, _, hh, _⟩
  · rw [h1] at hg; cases hg
  · rw [hv] at hg
    simp [Value.ownBlock] at hg
    subst hg
    exact ⟨cur, hh⟩
theorem at_load {ops : Array Oper} {rest : List Oper} {o : Oper} {a : Act} {Q : Exit → Act → World → Prop} (ty : TypeId) (x : Operand) (ho : o.op = .load ty x) (h : wpList Try.prog ops Q (o :: rest) a w) : wpList Try.prog ops Q (o :: rest) a w := h
theorem load_mid {ops : Array Oper} {rest : List Oper} {o : Oper} {a : Act} {Q : Exit → Act → World → Prop} (ty : TypeId) (x : Operand) {b off : Nat} {cs : List Value} (hc : w.rangeAt b off cs) (d : TypeDesc) (hu : Try.prog.underlying ty = some d) (hd : d.isRow = true) (hi : (Try.prog.info? ty).map (·.size) = some cs.length)
    (ho : o.op = .load ty x) (hx : a.eval x = .pointer (some ⟨b, off, none⟩)) (hw : Region.wanted o (yielded ops a.tmps) = true) (h : wpList Try.prog ops Q rest (a.put o.dst (.agg cs.toArray)) w) : wpList Try.prog ops Q (o :: rest) a w :=
  wpList_step fun K hK => by
    rw [if_pos hw]
    exact wp_load_mid ty x ho b off hx cs d hc hu hd hi (hK _ _ h)
theorem store_midL {ops : Array Oper} {rest : List Oper} {o : Oper} {a : Act} {Q : Exit → Act → World → Prop} (ty : TypeId) (x y : Operand) {b off : Nat} {L : List Value} (ht : w.there b off L.length) (hi : (Try.prog.info? ty).map (·.size) = some L.length) (h1 : ∀ u ∈ L, u.oneCell' = true)
    (ho : o.op = .store ty x y) (hx : a.eval x = .pointer (some ⟨b, off, none⟩)) (hy : a.eval y = .agg L.toArray) (hw : Region.wanted o (yielded ops a.tmps) = true) (h : wpList Try.prog ops Q rest (a.put o.dst undef) (w.setCells b off L)) : wpList Try.prog ops Q (o :: rest) a w :=
  wpList_step fun K hK => by
    rw [if_pos hw]
    exact wp_store_mid ty x y ho b off _ hx hy (by simpa using ht) (by simpa using hi) (all_oneCell_toArray h1) (hK _ _ (by simpa using h))
theorem run_eqlop {o : Oper} {ρ : Operand → Value} {w : World} (t : TypeId) (x y : Operand) (t' : TypeId) (ho : o.op = .binOp .eql t x y t') (xs ys : Array Value) (hx : ρ x = .agg xs) (hy : ρ y = .agg ys) (hg : Try.prog.eqGuardType Try.prog.depth t = false) (r : Bool) (h : (Op.equalIn 10000 t (.agg xs) (.agg ys)).run Try.prog w = .ok r w) : (execOp ρ o).run Try.prog w = .ok (.value (.bool r)) w := by
  unfold execOp
  simp only [ho, hx, hy, Sem.run_bind, run_eqGuard_agg w .eql t x y xs ys hg, run_eql_struct, h, Result.andThen_ok, Sem.run_pure]
theorem run_neqop {o : Oper} {ρ : Operand → Value} {w : World} (t : TypeId) (x y : Operand) (t' : TypeId) (ho : o.op = .binOp .neq t x y t') (xs ys : Array Value) (hx : ρ x = .agg xs) (hy : ρ y = .agg ys) (hg : Try.prog.eqGuardType Try.prog.depth t = false) (r : Bool) (h : (Op.equalIn 10000 t (.agg xs) (.agg ys)).run Try.prog w = .ok r w) : (execOp ρ o).run Try.prog w = .ok (.value (.bool (!r))) w := by
  unfold execOp
  simp only [ho, hx, hy, Sem.run_bind, run_eqGuard_agg w .neq t x y xs ys hg, run_neq_struct, h, Result.andThen_ok, Sem.run_pure]
theorem eql_step {ops : Array Oper} {rest : List Oper} {o : Oper} {a : Act} {w : World} {Q : Exit → Act → World → Prop} (t : TypeId) (x y : Operand) (t' : TypeId) {xs ys : Array Value} {r : Bool} (h : (Op.equalIn 10000 t (.agg xs) (.agg ys)).run Try.prog w = .ok r w) (hg : Try.prog.eqGuardType Try.prog.depth t = false)
    (ho : o.op = .binOp .eql t x y t') (hx : a.eval x = .agg xs) (hy : a.eval y = .agg ys) (hw : Region.wanted o (yielded ops a.tmps) = true) (hn : wpList Try.prog ops Q rest (a.put o.dst (.bool r)) w) : wpList Try.prog ops Q (o :: rest) a w :=
  wpList_step fun K hK => by
    rw [if_pos hw]
    unfold Oper.wp
    rw [run_eqlop t x y t' ho xs ys hx hy hg r h]
    exact hK _ _ hn
theorem neq_step {ops : Array Oper} {rest : List Oper} {o : Oper} {a : Act} {w : World} {Q : Exit → Act → World → Prop} (t : TypeId) (x y : Operand) (t' : TypeId) {xs ys : Array Value} {r : Bool} (h : (Op.equalIn 10000 t (.agg xs) (.agg ys)).run Try.prog w = .ok r w) (hg : Try.prog.eqGuardType Try.prog.depth t = false)
    (ho : o.op = .binOp .neq t x y t') (hx : a.eval x = .agg xs) (hy : a.eval y = .agg ys) (hw : Region.wanted o (yielded ops a.tmps) = true) (hn : wpList Try.prog ops Q rest (a.put o.dst (.bool (!r))) w) : wpList Try.prog ops Q (o :: rest) a w :=
  wpList_step fun K hK => by
    rw [if_pos hw]
    unfold Oper.wp
    rw [run_neqop t x y t' ho xs ys hx hy hg r h]
    exact hK _ _ hn
theorem blk_ne {a b t t' : Nat} {C C' : Array Value} (h : w.heap[a]? = some (.cells C t (0, 0))) (h' : w.heap[b]? = some (.cells C' t' (0, 0))) (ht : t ≠ t') : a ≠ b := by
  rintro rfl
  rw [h] at h'
  simp at h'
  exact ht h'.2
theorem sets_list {k t : Nat} : ∀ (vs : List Value) (o : Nat) (w : World) (xs : List Value), w.heap[k]? = some (.cells xs.toArray t (0, 0)) → o + vs.length ≤ xs.length → (w.setCells k o vs).heap[k]? = some (.cells (xs.take o ++ vs ++ xs.drop (o + vs.length)).toArray t (0, 0))
  | [], o, w, xs, h, _ => by simpa [World.setCells] using h
  | y :: ys, o, w, xs, h, hl => by
      simp only [List.length_cons] at hl
      have h1 : (w.setCell ⟨k, o, none⟩ y).heap[k]? = some (.cells (xs.set o y).toArray t (0, 0)) := blk_set h (by simp)
      have := sets_list ys (o + 1) _ _ h1 (by simp; omega)
      have e : (xs.set o y).take (o + 1) ++ ys ++ (xs.set o y).drop (o + 1 + ys.length) = xs.take o ++ y :: ys ++ xs.drop (o + (y :: ys).length) := by
        rw [List.take_set, List.drop_set, if_pos (by omega), List.length_cons, show o + (ys.length + 1) = o + 1 + ys.length by omega]
        rw [List.take_add_one, List.set_append]
        simp [show ¬ o < min o xs.length by omega, show min o xs.length = o by omega, show o < xs.length by omega]
      rw [e] at this
      exact this
theorem sets_whole {k t : Nat} {C : Array Value} {L : List Value} (h : w.heap[k]? = some (.cells C t (0, 0))) (hl : C.size = L.length) : (w.setCells k 0 L).heap[k]? = some (.cells L.toArray t (0, 0)) := by
  have := sets_list (k := k) (t := t) L 0 w C.toList (by simpa using h) (by simp [hl])
  have hd : C.toList.drop L.length = [] := List.drop_eq_nil_of_le (by simp [hl])
  simpa [hd] using this
theorem blk_there {k t n : Nat} {C : Array Value} (h : w.heap[k]? = some (.cells C t (0, 0))) (hn : C.size = n) : w.there k 0 n := fun j hj => ⟨by rw [blk_cell h, Nat.zero_add]; simp [show j < C.size by omega], frozen_of_row w _ _ _ _ h⟩
theorem blk_range {k t : Nat} {L : List Value} (h : w.heap[k]? = some (.cells L.toArray t (0, 0))) : w.rangeAt k 0 L := fun j v hv => by
  rw [blk_cell h, Nat.zero_add, List.getElem?_toArray, hv]
structure WpL (ops : Array Oper) (Q : Exit → Act → World → Prop) (l : List Oper) (a : Act) (w : World) : Prop where
  out : wpList Try.prog ops Q l a w
theorem wl_step {ops : Array Oper} {rest : List Oper} {o : Oper} {a : Act} {Q : Exit → Act → World → Prop} (hw : Region.wanted o (yielded ops a.tmps) = true) (h : ∀ K : Act → World → Prop, (∀ a w, WpL ops Q rest a w → K a w) → o.wp Try.prog a w K Q) : WpL ops Q (o :: rest) a w :=
  ⟨wpList_step fun K hK => by
    rw [if_pos hw]
    exact h K (fun a w h => hK a w h.out)⟩
theorem wl_take {ops : Array Oper} {rest : List Oper} {o : Oper} {a : Act} {Q : Exit → Act → World → Prop} {v : Value} (hw : Region.wanted o (yielded ops a.tmps) = true) (hx : (execOp a.eval o).run Try.prog w = .ok (.value v) w) (h : WpL ops Q rest (a.put o.dst v) w) : WpL ops Q (o :: rest) a w :=
  wl_step hw fun K hK => by
    unfold Oper.wp
    rw [hx]
    exact hK _ _ h
theorem wl_skip {ops : Array Oper} {rest : List Oper} {o : Oper} {a : Act} {Q : Exit → Act → World → Prop} (hw : Region.wanted o (yielded ops a.tmps) = false) (h : WpL ops Q rest (a.put o.dst undef) w) : WpL ops Q (o :: rest) a w :=
  ⟨wpList_step fun K hK => by
    rw [if_neg (by rw [hw]; simp)]
    exact hK _ _ h.out⟩
theorem wl_at {ops : Array Oper} {rest : List Oper} {o : Oper} {a : Act} {Q : Exit → Act → World → Prop} (d : Nat) (hd : o.dst = some d) (h : WpL ops Q (o :: rest) a w) : wpList Try.prog ops Q (o :: rest) a w := h.out
theorem wl_load {ops : Array Oper} {rest : List Oper} {o : Oper} {a : Act} {Q : Exit → Act → World → Prop} (ty : TypeId) (x : Operand) {b off : Nat} {cs : List Value} (hc : w.rangeAt b off cs) (d : TypeDesc) (hu : Try.prog.underlying ty = some d) (hd : d.isRow = true) (hi : (Try.prog.info? ty).map (·.size) = some cs.length)
    (ho : o.op = .load ty x) (hx : a.eval x = .pointer (some ⟨b, off, none⟩)) (hw : Region.wanted o (yielded ops a.tmps) = true) (h : WpL ops Q rest (a.put o.dst (.agg cs.toArray)) w) : WpL ops Q (o :: rest) a w :=
  wl_step hw fun K hK => wp_load_mid ty x ho b off hx cs d hc hu hd hi (hK _ _ h)
theorem wl_st {ops : Array Oper} {rest : List Oper} {o : Oper} {a : Act} {Q : Exit → Act → World → Prop} (ty : TypeId) (x y : Operand) (ho : o.op = .store ty x y) (h : WpL ops Q (o :: rest) a w) : wpList Try.prog ops Q (o :: rest) a w := h.out
theorem newvar (w : World) (t : TypeId) (Z : Array Value) (L : List Value) (h : Z.size = L.length) : Below w.heap.size w ((w.alloc (.cells Z t)).setCells w.heap.size 0 L) ∧ ((w.alloc (.cells Z t)).setCells w.heap.size 0 L).heap[w.heap.size]? = some (.cells L.toArray t (0, 0)) :=
  ⟨bsets (Nat.le_refl _) _ _ (balloc (Below.refl _ _)), sets_whole (heap_alloc_new w _) h⟩
theorem new_there (w : World) (t : TypeId) (Z : Array Value) {n : Nat} (h : Z.size = n) : (w.alloc (.cells Z t)).there w.heap.size 0 n := blk_there (heap_alloc_new w _) h
theorem wl_copy {ops : Array Oper} {rest : List Oper} {o : Oper} {a : Act} {Q : Exit → Act → World → Prop} (hgd : o.guard = none) (d s : Operand) (ho : o.op = .call { callee := .builtin .copy, args := #[d, s], argTypes := #[35, 35] })
    (dp sp : Option Addr) (dLen dCap sLen sCap : Nat) (hd : a.eval d = .slice dp dLen dCap) (hs : a.eval s = .slice sp sLen sCap) {g off : Nat} {L xs : List Int} (hb : Bk w g L) (hr : Rd w sp sLen sCap xs) (hm : sLen ≤ dLen) (hdp : 0 < sLen → dp = some ⟨g, off, none⟩) (hfit : off + sLen ≤ L.length)
    (h : ∀ w', Bk w' g (spl L off xs) → Kept w w' (fun k => k = g) → wpList Try.prog ops Q rest (a.put o.dst (.int .i64 (sLen : Int))) w') : wpList Try.prog ops Q (o :: rest) a w :=
  wpList_step fun K hK => step_copy hgd d s ho dp sp dLen dCap sLen sCap hd hs hb hr hm hdp hfit fun w' h1 h2 => hK _ _ (h w' h1 h2)
theorem step_storeL {ops : Array Oper} {o : Oper} {a : Act} {K : Act → World → Prop} {Q : Exit → Act → World → Prop} {E : Prop} (hgd : o.guard = none) (ty : TypeId) (x y : Operand) (ho : o.op = .store ty x y) {b off : Nat} {L : List Value} (hx : a.eval x = .pointer (some ⟨b, off, none⟩)) (hy : a.eval y = .agg L.toArray) (ht : w.there b off L.length) (hi : (Try.prog.info? ty).map (·.size) = some L.length) (h1 : ∀ u ∈ L, u.oneCell' = true)
    (h : K (a.put o.dst undef) (w.setCells b off L)) : if Region.wanted o (yielded ops a.tmps) = true then Oper.wp Try.prog o a w K Q else E := by
  have hw : Region.wanted o (yielded ops a.tmps) = true := by simp [Region.wanted, hgd]
  rw [if_pos hw]
  exact wp_store_mid ty x y ho b off _ hx hy (by simpa using ht) (by simpa using hi) (all_oneCell_toArray h1) (by simpa using h)
theorem at_store {ops : Array Oper} {rest : List Oper} {o : Oper} {a : Act} {Q : Exit → Act → World → Prop} (ty : TypeId) (x y : Operand) (ho : o.op = .store ty x y) (h : wpList Try.prog ops Q (o :: rest) a w) : wpList Try.prog ops Q (o :: rest) a w := h
theorem wl_storeL {ops : Array Oper} {rest : List Oper} {o : Oper} {a : Act} {Q : Exit → Act → World → Prop} (hgd : o.guard = none) (ty : TypeId) (x y : Operand) (ho : o.op = .store ty x y) {b off : Nat} {L : List Value} (hx : a.eval x = .pointer (some ⟨b, off, none⟩)) (hy : a.eval y = .agg L.toArray) (ht : w.there b off L.length) (hi : (Try.prog.info? ty).map (·.size) = some L.length) (h1 : ∀ u ∈ L, u.oneCell' = true)
    (h : wpList Try.prog ops Q rest (a.put o.dst undef) (w.setCells b off L)) : wpList Try.prog ops Q (o :: rest) a w :=
  wpList_step fun K hK => step_storeL hgd ty x y ho hx hy ht hi h1 (hK _ _ h)
theorem z2_at (i : Nat) : (#[Value.int .i64 0, .slice none 0 0])[i % 2]! = [Value.int .i64 0, .slice none 0 0].getD (i % 2) undef := by
  have : i % 2 < 2 := Nat.mod_lt _ (by omega)
  generalize i % 2 = k at this
  rcases k with _ | _ | k <;> first | rfl | omega
end
end Go.Proofs.Ytnhhjelplmdloaa.Ln
namespace Go.Proofs.Ytnhhjelplmdloaa.Et
open Go.RowKit Go.Maps
set_option linter.unusedVariables false
set_option linter.unusedSimpArgs false
set_option maxRecDepth 100000
section
variable {E E1 E' : En} {w w' w1 w2 w3 : World} {B K m : Nat}
theorem run_allocZ {t : TypeId} {Z : Array Value} (hz : (Try.prog.info? t).map (·.zero) = some (some (.agg Z))) : (Instr.alloc t true (.tuple #[])).run Try.prog w = .ok (.pointer (some ⟨w.heap.size, 0, none⟩)) (w.alloc (.cells Z t)) := by
  cases hi : Try.prog.info? t with
  | none => rw [hi] at hz; cases hz
  | some i =>
    rw [hi] at hz
    simp only [Option.map_some, Option.some.injEq] at hz
    simp [Instr.alloc, zeroValue, typeInfo, hi, hz, go_sem, newVar, newRow, Value.cells]
theorem wl_allocZ {ops : Array Oper} {rest : List Oper} {o : Oper} {a : Act} {Q : Exit → Act → World → Prop} {Z : Array Value} (hgd : o.guard = none) (t : TypeId) (ho : o.op = .alloc t) (hz : (Try.prog.info? t).map (·.zero) = some (some (.agg Z)))
    (h : ∀ W : World, W.heap[w.heap.size]? = some (.cells Z t (0, 0)) → Below w.heap.size w W → w.heap.size < W.heap.size → wpList Try.prog ops Q rest (a.put o.dst (.pointer (some ⟨w.heap.size, 0, none⟩))) W) : wpList Try.prog ops Q (o :: rest) a w :=
  wpList_plain hgd fun K hK => by
    unfold Oper.wp execOp
    simp only [ho, Sem.run_bind, run_allocZ hz, Result.andThen_ok, Sem.run_pure]
    exact hK _ _ (h _ (heap_alloc_new w _) ((Below.refl _ _).alloc (Nat.le_refl _) _) (by simp))
theorem wl_buildZ {ops : Array Oper} {rest : List Oper} {o : Oper} {a : Act} {Q : Exit → Act → World → Prop} {cs : Array Value} (hgd : o.guard = none) (t : TypeId) (parts : Array (Nat × Operand)) (ho : o.op = .build t parts) (hf : Try.prog.built t (parts.map fun (i, x) => (i, a.eval x)).toList = some cs)
    (h : wpList Try.prog ops Q rest (a.put o.dst (.agg cs)) w) : wpList Try.prog ops Q (o :: rest) a w :=
  wpList_build hgd t parts ho (by rw [hf]; rfl) (by rw [hf]; exact h)
theorem built_eq {t : TypeId} {l l' : List (Nat × Value)} {c : Array Value} (e : l = l') (h : Try.prog.built t l' = some c) : Try.prog.built t l = some c := e ▸ h
theorem wl_storeZ {ops : Array Oper} {rest : List Oper} {o : Oper} {a : Act} {Q : Exit → Act → World → Prop} (hgd : o.guard = none) (ty : TypeId) (x y : Operand) (ho : o.op = .store ty x y) {g : Nat} {L : List Value} {t : TypeId} {old : Array Value} (hx : a.eval x = .pointer (some ⟨g, 0, none⟩)) (hy : a.eval y = .agg L.toArray) (hg : w.heap[g]? = some (.cells old t (0, 0))) (hi : (Try.prog.info? ty).map (·.size) = some L.length) (hold : old.size = L.length) (h1 : ∀ u ∈ L, u.oneCell' = true)
    (h : ∀ W : World, W.heap[g]? = some (.cells L.toArray t (0, 0)) → Mb.Kept w W (fun j => j = g) → wpList Try.prog ops Q rest (a.put o.dst undef) W) : wpList Try.prog ops Q (o :: rest) a w :=
  Ln.wl_storeL hgd ty x y ho hx hy (Ln.blk_there hg hold) hi h1 (h _ (Ln.sets_whole hg hold) (Mb.ksets (P := fun j => j = g) rfl _ _ _))
theorem res_cell {fn : Func} {p : Tmp} {t : TypeId} {d : TypeDesc} (h : fn.results = #[.cell p t]) (tmps : Array Value) (w : World) (g : Nat) (L : List Value) (hu : Try.prog.underlying t = some d) (hd : d.isRow = true) (hi : (Try.prog.info? t).map (·.size) = some L.length)
    (hp : tmps.getD p undef = .pointer (some ⟨g, 0, none⟩)) (hg : w.rangeAt g 0 L) :
    (results fn tmps).run Try.prog w = .ok (.agg L.toArray) w := by
  have e : (results fn tmps).run Try.prog w = ((asAddr (tmps.getD p undef)).run Try.prog w).andThen fun a w₁ => (loadVar t a).run Try.prog w₁ := by
    simp only [results, h]
    simp [Sem.run_bind, Result.andThen]
  rw [e, hp]
  simp [asAddr, run_loadVar_mid w g 0 t L _ hg hu hd hi]
def rv (n : Nat) (f : Nat → Value) : List Value := (List.range n).map f
theorem rv_len (n : Nat) (f : Nat → Value) : (rv n f).length = n := by simp [rv]
theorem rv_get {n : Nat} (f : Nat → Value) {i : Nat} (h : i < n) : (rv n f)[i]? = some (f i) := by simp [rv, h]
theorem rv_congr {n : Nat} {f g : Nat → Value} (h : ∀ i, i < n → f i = g i) : rv n f = rv n g := by
  apply List.ext_getElem
  · simp [rv]
  · intro i h1 h2
    simp [rv] at h1 ⊢
    exact h i h1
def upv (f : Nat → Value) (i : Nat) (v : Value) : Nat → Value := fun j => if j = i then v else f j
theorem rv_set {n : Nat} (f : Nat → Value) (i : Nat) (v : Value) : (rv n f).set i v = rv n (upv f i v) := by
  apply List.ext_getElem
  · simp [rv]
  · intro j h1 h2
    simp [rv] at h1 h2 ⊢
    rw [List.getElem_set]
    by_cases e : i = j
    · subst e; simp [upv]
    · simp [e, upv, show ¬ j = i from fun h => e h.symm]
theorem rv_one {n : Nat} {f : Nat → Value} (h : ∀ i, i < n → (f i).oneCell' = true) : ∀ u ∈ rv n f, u.oneCell' = true := by
  intro u hu
  obtain ⟨i, hi, rfl⟩ := List.mem_map.1 hu
  exact h i (List.mem_range.1 hi)
theorem part_one {e : TypeId} {L : List Value} (hag : (isAgg e).run Try.prog w = .ok false w) {i : Nat} {v : Value} (h : L[i]? = some v) : (part e L.toArray i).run Try.prog w = .ok v w := by
  unfold part
  simp only [Sem.run_bind, hag, Result.andThen_ok, Bool.false_eq_true, if_false, List.getElem?_toArray, h]
  rfl
theorem part_row {e : TypeId} {n : Nat} {L : List Value} (hag : (isAgg e).run Try.prog w = .ok true w) (hsz : (sizeOf e).run Try.prog w = .ok n w) (o : Nat) : (part e L.toArray o).run Try.prog w = .ok (.agg (L.toArray.extract o (o + n))) w := by
  unfold part
  simp only [Sem.run_bind, hag, hsz, Result.andThen_ok, if_true, Sem.run_pure]
theorem items_self {d s : Nat} {e : TypeId} {X : Array Value} : ∀ (is : List Nat), (∀ i ∈ is, ∃ v, (part e X (i * s)).run Try.prog w = .ok v w ∧ (Op.equalIn d e v v).run Try.prog w = .ok true w) → (Op.eqItems d e s X X is).run Try.prog w = .ok true w
  | [], _ => by simp [Op.eqItems]
  | i :: is, h => by
    obtain ⟨v, h1, h2⟩ := h i (by simp)
    have ih := items_self is (fun j hj => h j (by simp [hj]))
    simp only [Op.eqItems, Sem.run_bind, h1, h2, Result.andThen_ok]
    simpa using ih
theorem cellsB : Try.prog.cellsOf 4 = 1 := by kernel_rfl
theorem cellsI : Try.prog.cellsOf 3 = 1 := by kernel_rfl
theorem cells1B : Try.prog.cellsOf 53 = 17 := by kernel_rfl
theorem cells1I : Try.prog.cellsOf 54 = 17 := by kernel_rfl
theorem isome {t : TypeId} (h : (Try.prog.info? t).isSome = true) : ∃ i, Try.prog.info? t = some i := Option.isSome_iff_exists.1 h
theorem eq_bool (d : Nat) (b : Bool) : (Op.equalIn (d + 1) 4 (.bool b) (.bool b)).run Try.prog w = .ok true w := by
  simp only [Op.equalIn, Sem.run_bind, run_underlying Try.underlying4 w, Result.andThen_ok]
  simp
theorem eq_int (d : Nat) (x : Int) : (Op.equalIn (d + 1) 3 (.int .i64 x) (.int .i64 x)).run Try.prog w = .ok true w := by
  rw [run_equalIn_int w d 3 .i64 .i64 _ _ Try.underlying3]
  simp
theorem agB : (isAgg 4).run Try.prog w = .ok false w := by
  unfold isAgg
  rw [Sem.run_bind, run_underlying Try.underlying4 w]
  rfl
theorem agI : (isAgg 3).run Try.prog w = .ok false w := by
  unfold isAgg
  rw [Sem.run_bind, run_underlying Try.underlying3 w]
  rfl
theorem ag1B : (isAgg 53).run Try.prog w = .ok true w := by
  unfold isAgg
  rw [Sem.run_bind, run_underlying Try.underlying53 w]
  rfl
theorem ag1I : (isAgg 54).run Try.prog w = .ok true w := by
  unfold isAgg
  rw [Sem.run_bind, run_underlying Try.underlying54 w]
  rfl
theorem size_of {t : TypeId} {n : Nat} (h : (Try.prog.info? t).map (·.size) = some n) : (sizeOf t).run Try.prog w = .ok n w := by
  cases hq : Try.prog.info? t with
  | none => simp [hq] at h
  | some i => simp [hq] at h; simp [sizeOf, typeInfo, hq, h]
theorem eq_1B (d : Nat) (L : List Value) (h : ∀ i, i < 17 → ∃ b : Bool, L[i]? = some (.bool b)) : (Op.equalIn (d + 2) 53 (.agg L.toArray) (.agg L.toArray)).run Try.prog w = .ok true w := by
  obtain ⟨i, hi⟩ := isome (t := 4) (by kernel_rfl)
  rw [run_equalIn_array w (d + 1) _ _ Try.underlying53 hi, cellsB]
  refine items_self _ (fun i hi => ?_)
  obtain ⟨b, hb⟩ := h i (List.mem_range.1 hi)
  exact ⟨.bool b, by rw [Nat.mul_one]; exact part_one agB hb, eq_bool d b⟩
theorem eq_1I (d : Nat) (L : List Value) (h : ∀ i, i < 17 → ∃ x : Int, L[i]? = some (.int .i64 x)) : (Op.equalIn (d + 2) 54 (.agg L.toArray) (.agg L.toArray)).run Try.prog w = .ok true w := by
  obtain ⟨i, hi⟩ := isome (t := 3) (by kernel_rfl)
  rw [run_equalIn_array w (d + 1) _ _ Try.underlying54 hi, cellsI]
  refine items_self _ (fun i hi => ?_)
  obtain ⟨b, hb⟩ := h i (List.mem_range.1 hi)
  exact ⟨.int .i64 b, by rw [Nat.mul_one]; exact part_one agI hb, eq_int d b⟩
theorem ext_at {L : List Value} {o n i : Nat} (hi : i < n) (h : o + n ≤ L.length) : ((L.toArray.extract o (o + n)).toList)[i]? = L[o + i]? := by
  rw [Array.toList_extract, List.extract_eq_take_drop]
  simp [List.getElem?_take, hi]
theorem eq_2B (d : Nat) (L : List Value) (hl : L.length = 289) (h : ∀ i, i < 289 → ∃ b : Bool, L[i]? = some (.bool b)) : (Op.equalIn (d + 3) 55 (.agg L.toArray) (.agg L.toArray)).run Try.prog w = .ok true w := by
  obtain ⟨i, hi⟩ := isome (t := 53) (by kernel_rfl)
  rw [run_equalIn_array w (d + 2) _ _ Try.underlying55 hi, cells1B]
  refine items_self _ (fun i hi => ?_)
  have hi := List.mem_range.1 hi
  refine ⟨_, part_row ag1B (size_of (n := 17) (by kernel_rfl)) _, ?_⟩
  have := eq_1B (w := w) d (L.toArray.extract (i * 17) (i * 17 + 17)).toList (fun j hj => by rw [ext_at hj (by omega)]; exact h _ (by omega))
  simpa using this
theorem eq_2I (d : Nat) (L : List Value) (hl : L.length = 289) (h : ∀ i, i < 289 → ∃ x : Int, L[i]? = some (.int .i64 x)) : (Op.equalIn (d + 3) 56 (.agg L.toArray) (.agg L.toArray)).run Try.prog w = .ok true w := by
  obtain ⟨i, hi⟩ := isome (t := 54) (by kernel_rfl)
  rw [run_equalIn_array w (d + 2) _ _ Try.underlying56 hi, cells1I]
  refine items_self _ (fun i hi => ?_)
  have hi := List.mem_range.1 hi
  refine ⟨_, part_row ag1I (size_of (n := 17) (by kernel_rfl)) _, ?_⟩
  have := eq_1I (w := w) d (L.toArray.extract (i * 17) (i * 17 + 17)).toList (fun j hj => by rw [ext_at hj (by omega)]; exact h _ (by omega))
  simpa using this
def sg (E : En) (v : Value) (i : Nat) : Value :=
  if i = 0 then .int .i64 E.clock
  else if i < 18 then .bool (isN E ((i - 1 : Nat) : Int) && E.up (i - 1))
  else if i < 35 then .int .i64 (if isN E ((i - 18 : Nat) : Int) then E.inc (i - 18) else 0)
  else if i < 52 then .int .i64 (if isN E ((i - 35 : Nat) : Int) then E.tick (i - 35) else 0)
  else if i < 341 then .bool (isP E (((i - 52) / 17 : Nat) : Int) (((i - 52) % 17 : Nat) : Int) && !E.cut ((i - 52) / 17) ((i - 52) % 17))
  else if i < 630 then .int .i64 (if isP E (((i - 341) / 17 : Nat) : Int) (((i - 341) % 17 : Nat) : Int) then E.dl ((i - 341) / 17) ((i - 341) % 17) else 0)
  else v
theorem sg_one (E : En) (a : Option Addr) (n c i : Nat) : (sg E (.slice a n c) i).oneCell' = true := by
  unfold sg
  repeat' split
  all_goals rfl
theorem iSi : (Try.prog.info? 58).map (·.size) = some 631 := by kernel_rfl
end
end Go.Proofs.Ytnhhjelplmdloaa.Et
namespace Go.Proofs.Ytnhhjelplmdloaa.Et
open Go.RowKit Go.Maps
set_option linter.unusedVariables false
set_option linter.unusedSimpArgs false
set_option maxRecDepth 100000
section
variable {E E1 E' : En} {w w' w1 w2 w3 : World} {B K m : Nat}
structure RdG (w : World) (B : Nat) (a : Option Addr) (n c : Nat) (L : List Fx) : Prop where
  len : L.length = n
  row : w.ownsRow B 43 5 (.slice a n c) n (flCells L)
  byt : ∀ i, i < n → (L.getD i f0).byt w B
  ap : ∀ i j, i < n → j < n → i ≠ j → (L.getD i f0).apart (L.getD j f0)
theorem RdG.rdf {a : Option Addr} {n c : Nat} {L : List Fx} (h : RdG w B a n c L) : RdF w a n (L.map Fx.d) := ⟨L, rfl, h.len, fun f hf => by
  obtain ⟨i, hi, rfl⟩ := List.getElem_of_mem hf
  have := (h.byt i (by rw [← h.len]; exact hi)).rd
  simpa [List.getD, List.getElem?_eq_getElem hi] using this, row_cells h.row h.len⟩
theorem RdG.keep {P : Nat → Prop} {a : Option Addr} {n c : Nat} {L : List Fx} (h : RdG w B a n c L) (k : Kept w w' P) (hp : ∀ j, B ≤ j → ¬ P j) : RdG w' B a n c L :=
  ⟨h.len, k.owns h.row (fun j hj => hp j (World.ownsRow.lt h.row j hj).1), fun i hi => (h.byt i hi).keep k (fun j hj => hp j (World.ownsRow.lt (h.byt i hi).1 j hj).1), h.ap⟩
theorem RdG.still {a : Option Addr} {n c : Nat} {L : List Fx} (h : RdG w B a n c L) (hb : Below w.heap.size w w') : RdG w' B a n c L := h.keep (Kept.ofBelow hb (fun _ => False)) (fun _ _ => id)
set_option maxHeartbeats 400000 in
theorem flights2_any (h : E.Ok w B m) (hlen : E.fs.length ≤ 20000) (hsz : ∀ f ∈ E.fs, f.n ≤ 40000) : Calls Try.prog 15 #[.pointer (some ⟨E.b, 0, none⟩)] w fun e w' => ∃ a L, e = .returned (.slice a E.fs.length E.fs.length) ∧ RdG w' w.heap.size a E.fs.length E.fs.length L ∧ L.map Fx.d = E.fs.map Fx.d ∧ Below w.heap.size w w' := by
  obtain ⟨i0, hi, hz0, hz1, hz2⟩ := info_parts info_fl
  have c6 := h.c6
  have Hh : Hid (E.Ok w B m) := h
  clear h
  go_enter Try.func15, Try.ntmps15
  go_wp2_with (first
    | (at_make; refine wpList_make_full _ rfl _ _ 39 rfl w.heap.size 43 i0 (.agg #[.int .i64 0, .int .i64 0, .int .i64 0, .int .i64 0, .slice none 0 0]) 5 Try.underlying39 hi hz0 hz1 .i64 .i64 _ _ E.fs.length rfl rfl rfl rfl ?b2 ?b3 (Nat.le_refl _) ?_)
    | fail)
  case b2 => rw [hz2]; omega
  case b3 => unfold maxLen; omega
  intro w1 hown hgrow
  have HB1 : Hid (Below w.heap.size w w1) := (Below.refl _ w).grown hgrow (Nat.le_refl _) (fun k hk => by cases hk)
  have HO1 : Hid (w1.ownsRow w.heap.size 43 5 (.slice (some ⟨w.heap.size, 0, none⟩) E.fs.length E.fs.length) E.fs.length (flCells (List.replicate E.fs.length f0))) := by rw [← made_zero]; exact hown
  have c61 := (Hh.out.still HB1.out).c6
  clear hown hgrow
  go_wp2
  have HL : Hid (∀ f ∈ E.fs, f.n ≤ 40000) := hsz
  clear hsz c6
  generalize hN : E.fs.length = N at *
  go_loopw [17] (fun i wr => ∃ (k : Nat) (L : List Fx), k ≤ N ∧ i = .int .i64 k ∧ L.length = N ∧ wr.ownsRow w.heap.size 43 5 (.slice (some ⟨w.heap.size, 0, none⟩) N N) N (flCells L) ∧ (∀ j, j < k → (L.getD j f0).d = (E.fs.getD j f0).d ∧ (L.getD j f0).byt wr w.heap.size) ∧ (∀ i j, i < k → j < k → i ≠ j → (L.getD i f0).apart (L.getD j f0)) ∧ Below w.heap.size w wr) (fun i _ => N - (intOf i).toNat)
  case atStart => exact ⟨0, List.replicate N f0, Nat.zero_le _, rfl, by simp, HO1.out, fun j hj => by omega, fun i j hi => by omega, HB1.out⟩
  case round =>
    obtain ⟨k, L, hk, rfl, hL, hrow, hall, hap, hbel⟩ := hrel
    have HP : Hid (∀ i j, i < k → j < k → i ≠ j → (L.getD i f0).apart (L.getD j f0)) := hap
    have HR : Hid (wr.ownsRow w.heap.size 43 5 (.slice (some ⟨w.heap.size, 0, none⟩) N N) N (flCells L)) := hrow
    have HA : Hid (∀ j, j < k → (L.getD j f0).d = (E.fs.getD j f0).d ∧ (L.getD j f0).byt wr w.heap.size) := hall
    have HB : Hid (Below w.heap.size w wr) := hbel
    clear hrow hall hap hbel
    by_cases hlt : k < N
    · have hE := Hh.out.still HB.out
      obtain ⟨g, hg, u0, u1, u2, u3, u4, uz⟩ := hE.flC (k := k) (by omega)
      have hfm : E.fs.getD k f0 ∈ E.fs := mem_getD (by omega)
      have hfb := hE.fls.byt _ hfm
      have hfn := HL.out _ hfm
      generalize hf : E.fs.getD k f0 = f at u0 u1 u2 u3 u4 hfb hfn
      have HC : Hid (∀ w', Below wr.heap.size wr w' → Calls Try.prog 36 #[.agg #[.int .i64 f.id, .int .i64 f.src, .int .i64 f.dst, .int .i64 f.due, .slice f.a f.n f.c]] w' fun e w2 => ∃ g, e = .returned (.agg #[.int .i64 f.id, .int .i64 f.src, .int .i64 f.dst, .int .i64 f.due, .slice (some ⟨g, 0, none⟩) f.n f.n]) ∧ w2.ownsRow w'.heap.size 5 1 (.slice (some ⟨g, 0, none⟩) f.n f.n) f.n (f.bs.map (Value.int .u8)) ∧ Below w'.heap.size w' w2) := fun w' hb => copyFlight_any f.id f.src f.dst f.due f.a f.n f.c f.bs (hfb.rd.still hb) (by omega)
      have hrr := hfb.2
      have i1 : (0 : Int) ≤ (k : Int) := Int.natCast_nonneg _
      have i2 : (k : Int) < (N : Int) := by omega
      have hwz : w.heap.size ≤ wr.heap.size := HB.out.size
      rw [hg]
      clear hE hfb hfm uz hfn
      go_wp2_with (first
        | (go_at_call 36; refine (HC.out _ (by repeat (first | exact Below.refl _ _ | apply Below.drew | apply balloc))).mono ?_; rintro e w2 ⟨gb, rfl, ho, hb2⟩; have B2 : Hid (Below wr.heap.size wr w2) := (bstepA (Below.refl _ wr) hb2); have HR2 : Hid (w2.ownsRow w.heap.size 43 5 (.slice (some ⟨w.heap.size, 0, none⟩) N N) N (flCells L)) := own_still HR.out B2.out; have HGB : Hid (wr.heap.size ≤ gb) := (show wr.heap.size ≤ gb from by have := (World.ownsRow.lt ho gb rfl).1; simp at this; omega); have Ho : Hid (w2.ownsRow w.heap.size 5 1 (.slice (some ⟨gb, 0, none⟩) f.n f.n) f.n (f.bs.map (Value.int .u8))) := (own_lower ho (by simp; omega)); obtain ⟨x0, x1, x2, x3, x4, y0, y1, y2, y3, y4⟩ := row_at HR2.out (show k < L.length by omega); clear ho hb2)
        | fail)
      rw [put5at_eq]
      have kp : Kept w2 (put5at w2 w.heap.size (k * 5) (.int .i64 f.id) (.int .i64 f.src) (.int .i64 f.dst) (.int .i64 f.due) (.slice (some ⟨gb, 0, none⟩) f.n f.n)) (fun j => j = w.heap.size) := put5at_kept _ _ _ _ _ _ _
      refine ⟨⟨k + 1, L.set k ⟨f.id, f.src, f.dst, f.due, some ⟨gb, 0, none⟩, f.n, f.n, f.bs⟩, by omega, by go_num, by simpa using hL, row_put HR2.out k (by omega) ⟨f.id, f.src, f.dst, f.due, some ⟨gb, 0, none⟩, f.n, f.n, f.bs⟩, ?_, ?_, ?_⟩, ?_⟩
      · intro j hj
        by_cases e : j = k
        · subst e
          rw [getD_set L j (by omega), hf]
          refine ⟨rfl, kp.owns Ho.out (fun q hq e => ?_), hrr⟩
          exact own_ty Ho.out HR2.out (by decide) hq (by rw [e]; rfl)
        · have e2 : (L.set k ⟨f.id, f.src, f.dst, f.due, some ⟨gb, 0, none⟩, f.n, f.n, f.bs⟩).getD j f0 = L.getD j f0 := by
            simp [List.getD, List.getElem?_set, show ¬ k = j by omega]
          rw [e2]
          obtain ⟨a1, a2⟩ := HA.out j (by omega)
          have a3 := a2.keep (Kept.ofBelow B2.out (fun _ => False)) (fun _ _ => id)
          exact ⟨a1, a3.keep kp (fun q hq e => own_ty a3.1 HR2.out (by decide) hq (by rw [e]; rfl))⟩
      · have hold : ∀ j, j < k → ∀ q, (L.getD j f0).v.ownBlock = some q → q < wr.heap.size := fun j hj q hq => by
          obtain ⟨_, cur⟩ := row_ty (HA.out j hj).2.1 hq
          exact (Array.getElem?_eq_some_iff.1 cur).1
        have hget : ∀ j, j < k + 1 → (L.set k (⟨f.id, f.src, f.dst, f.due, some ⟨gb, 0, none⟩, f.n, f.n, f.bs⟩ : Fx)).getD j f0 = if j = k then ⟨f.id, f.src, f.dst, f.due, some ⟨gb, 0, none⟩, f.n, f.n, f.bs⟩ else L.getD j f0 := fun j hj => by
          by_cases e : j = k
          · subst e
            rw [getD_set L j (by omega), if_pos rfl]
          · rw [if_neg e]
            simp [List.getD, List.getElem?_set, show ¬ k = j by omega]
        intro i j hi hj hij
        rw [hget i hi, hget j hj]
        have hnew : ∀ q, (⟨f.id, f.src, f.dst, f.due, some ⟨gb, 0, none⟩, f.n, f.n, f.bs⟩ : Fx).v.ownBlock = some q → wr.heap.size ≤ q := fun q hq => by
          have e : some gb = some q := hq
          simp at e
          have := HGB.out
          omega
        by_cases e1 : i = k
        · rw [if_pos e1, if_neg (by omega)]
          intro q hq e
          have := hnew q hq
          have := hold j (by omega) q e
          omega
        · rw [if_neg e1]
          by_cases e2 : j = k
          · rw [if_pos e2]
            intro q hq e
            have := hnew q e
            have := hold i (by omega) q hq
            omega
          · rw [if_neg e2]
            exact HP.out i j (by omega) (by omega) hij
      · exact (HB.out.trans (B2.out.mono HB.out.size)).trans (kp.below (by have := B2.out.size; omega) (fun j hj e => by omega))
      · simp [intOf]; omega
    · obtain rfl : k = N := by omega
      go_wp2
      go_ret
      rw [hN]
      refine ⟨_, L, rfl, ⟨hL, HR.out, fun i hi => (HA.out i hi).2, HP.out⟩, ?_, HB.out⟩
      apply List.ext_getElem
      · simp [hL, hN]
      · intro i h1 h2
        have hi : i < k := by simpa [hL] using h1
        have := (HA.out i hi).1
        simp only [List.getElem_map]
        simpa [List.getD, List.getElem?_eq_getElem (show i < L.length by omega), List.getElem?_eq_getElem (show i < E.fs.length by omega)] using this
end
end Go.Proofs.Ytnhhjelplmdloaa.Et
namespace Go.Proofs.Ytnhhjelplmdloaa.Et
open Go.RowKit Go.Maps
set_option linter.unusedVariables false
set_option linter.unusedSimpArgs false
set_option maxRecDepth 100000
section
variable {E E1 E' : En} {w w' w1 w2 w3 : World} {B K m : Nat}
theorem oneB : (Try.prog.info? 4).map (·.size) = some 1 := by kernel_rfl
theorem oneI : (Try.prog.info? 3).map (·.size) = some 1 := by kernel_rfl
theorem wl_stB {ops : Array Oper} {rest : List Oper} {o : Oper} {a : Act} {Q : Exit → Act → World → Prop} (hgd : o.guard = none) (ty : TypeId) (x y : Operand) (ho : o.op = .store ty x y) {g p t : Nat} {C : Array Value} {z : Bool} (hx : a.eval x = .pointer (some ⟨g, p, none⟩)) (hy : a.eval y = .bool z) (hg : w.heap[g]? = some (.cells C t (0, 0))) (hp : p < C.size) (hz : (Try.prog.info? ty).map (·.size) = some 1) (hd : o.dst = none)
    (h : wpList Try.prog ops Q rest a (w.setCell ⟨g, p, none⟩ (.bool z))) : wpList Try.prog ops Q (o :: rest) a w := wpList_plain hgd fun K hK => by
    have q : w.cell? ⟨g, p, none⟩ = some C[p] := by rw [blk_cell hg p]; exact Array.getElem?_eq_getElem hp
    have zz : w.frozen? ⟨g, p, none⟩ = false := frozen_of_row w _ _ _ _ hg
    have hs := size_of (w := w) hz
    unfold Oper.wp execOp
    simp only [ho, hx, hy]
    go_simp
    have hk := hK a _ h
    rw [hd] at *
    exact hk
theorem step_stB {ops : Array Oper} {o : Oper} {a : Act} {K : Act → World → Prop} {Q : Exit → Act → World → Prop} {EE : Prop} (hgd : o.guard = none) (ty : TypeId) (x y : Operand) (ho : o.op = .store ty x y) {g p t : Nat} {C : Array Value} {z : Bool} (hx : a.eval x = .pointer (some ⟨g, p, none⟩)) (hy : a.eval y = .bool z) (hg : w.heap[g]? = some (.cells C t (0, 0))) (hp : p < C.size) (hz : (Try.prog.info? ty).map (·.size) = some 1) (hd : o.dst = none)
    (h : K a (w.setCell ⟨g, p, none⟩ (.bool z))) : if Region.wanted o (yielded ops a.tmps) = true then Oper.wp Try.prog o a w K Q else EE := by
    rw [if_pos (show Region.wanted o (yielded ops a.tmps) = true by simp [Region.wanted, hgd])]
    have q : w.cell? ⟨g, p, none⟩ = some C[p] := by rw [blk_cell hg p]; exact Array.getElem?_eq_getElem hp
    have zz : w.frozen? ⟨g, p, none⟩ = false := frozen_of_row w _ _ _ _ hg
    have hs := size_of (w := w) hz
    unfold Oper.wp execOp
    simp only [ho, hx, hy]
    go_simp
    have hk := h
    rw [hd] at *
    exact hk
theorem wl_stI {ops : Array Oper} {rest : List Oper} {o : Oper} {a : Act} {Q : Exit → Act → World → Prop} (hgd : o.guard = none) (ty : TypeId) (x y : Operand) (ho : o.op = .store ty x y) {g p t : Nat} {C : Array Value} {z : Int} (hx : a.eval x = .pointer (some ⟨g, p, none⟩)) (hy : a.eval y = .int .i64 z) (hg : w.heap[g]? = some (.cells C t (0, 0))) (hp : p < C.size) (hz : (Try.prog.info? ty).map (·.size) = some 1) (hd : o.dst = none)
    (h : wpList Try.prog ops Q rest a (w.setCell ⟨g, p, none⟩ (.int .i64 z))) : wpList Try.prog ops Q (o :: rest) a w := wpList_plain hgd fun K hK => by
    have q : w.cell? ⟨g, p, none⟩ = some C[p] := by rw [blk_cell hg p]; exact Array.getElem?_eq_getElem hp
    have zz : w.frozen? ⟨g, p, none⟩ = false := frozen_of_row w _ _ _ _ hg
    have hs := size_of (w := w) hz
    unfold Oper.wp execOp
    simp only [ho, hx, hy]
    go_simp
    have hk := hK a _ h
    rw [hd] at *
    exact hk
theorem step_stI {ops : Array Oper} {o : Oper} {a : Act} {K : Act → World → Prop} {Q : Exit → Act → World → Prop} {EE : Prop} (hgd : o.guard = none) (ty : TypeId) (x y : Operand) (ho : o.op = .store ty x y) {g p t : Nat} {C : Array Value} {z : Int} (hx : a.eval x = .pointer (some ⟨g, p, none⟩)) (hy : a.eval y = .int .i64 z) (hg : w.heap[g]? = some (.cells C t (0, 0))) (hp : p < C.size) (hz : (Try.prog.info? ty).map (·.size) = some 1) (hd : o.dst = none)
    (h : K a (w.setCell ⟨g, p, none⟩ (.int .i64 z))) : if Region.wanted o (yielded ops a.tmps) = true then Oper.wp Try.prog o a w K Q else EE := by
    rw [if_pos (show Region.wanted o (yielded ops a.tmps) = true by simp [Region.wanted, hgd])]
    have q : w.cell? ⟨g, p, none⟩ = some C[p] := by rw [blk_cell hg p]; exact Array.getElem?_eq_getElem hp
    have zz : w.frozen? ⟨g, p, none⟩ = false := frozen_of_row w _ _ _ _ hg
    have hs := size_of (w := w) hz
    unfold Oper.wp execOp
    simp only [ho, hx, hy]
    go_simp
    have hk := h
    rw [hd] at *
    exact hk
def zs (i : Nat) : Value := if i = 0 then .int .i64 0 else if i < 18 then .bool false else if i < 52 then .int .i64 0 else if i < 341 then .bool false else if i < 630 then .int .i64 0 else .slice none 0 0
theorem zs_one (i : Nat) : (zs i).oneCell' = true := by
  unfold zs
  repeat' split
  all_goals rfl
theorem zSight : (Try.prog.info? 58).map (·.zero) = some (some (.agg (rv 631 zs).toArray)) := by kernel_rfl
theorem bSight (c : Int) (a : Option Addr) (n k : Nat) : Try.prog.built 58 [(0, .int .i64 c), (6, .slice a n k)] = some (rv 631 (upv (upv zs 0 (.int .i64 c)) 630 (.slice a n k))).toArray := by kernel_rfl
def dn (p q r d : Nat) (i : Nat) : Prop :=
  i = 0 ∨ i = 630 ∨ (1 ≤ i ∧ i < 18 ∧ (i - 1 < p ∨ (1 ≤ d ∧ i - 1 = p))) ∨ (18 ≤ i ∧ i < 35 ∧ (i - 18 < p ∨ (2 ≤ d ∧ i - 18 = p))) ∨ (35 ≤ i ∧ i < 52 ∧ (i - 35 < p ∨ (3 ≤ d ∧ i - 35 = p))) ∨ (52 ≤ i ∧ i < 341 ∧ i - 52 < p * 17 + q) ∨ (341 ≤ i ∧ i < 630 ∧ i - 341 < p * 17 + r)
structure Lk (E : En) (v : Value) (sb p q r d : Nat) (V X : World) (rb : Nat) (f : Nat → Value) : Prop where
  blk : X.heap[sb]? = some (.cells (rv 631 f).toArray 58 (0, 0))
  one : ∀ i, i < 631 → (f i).oneCell' = true
  ok : ∀ i, i < 631 → dn p q r d i → f i = sg E v i
  rb : X.heap[rb]? = some (.cells (rv 631 zs).toArray 58 (0, 0))
  b : Below V.heap.size V X
section
variable {v : Value} {sb p q r d rb : Nat} {V X X' : World} {f : Nat → Value}
theorem Lk.still (h : Lk E v sb p q r d V X rb f) (hb : Below X.heap.size X X') : Lk E v sb p q r d V X' rb f :=
  ⟨(hb.block _ (lt_heap h.blk)).trans h.blk, h.one, h.ok, (hb.block _ (lt_heap h.rb)).trans h.rb, bstep h.b hb⟩
theorem Lk.put (h : Lk E v sb p q r d V X rb f) {i p' q' r' d' : Nat} {z : Value} (hi : i < 631) (hz : z.oneCell' = true) (hv : dn p' q' r' d' i → z = sg E v i) (hd : ∀ j, j < 631 → j ≠ i → dn p' q' r' d' j → dn p q r d j) (hsb : V.heap.size ≤ sb) (hne : rb ≠ sb) : Lk E v sb p' q' r' d' V (X.setCell ⟨sb, i, none⟩ z) rb (upv f i z) := by
  refine ⟨?_, fun j hj => ?_, fun j hj hdn => ?_, ?_, ?_⟩
  · rw [← rv_set]
    exact blk_set h.blk (by rw [List.setIfInBounds_toArray])
  · unfold upv
    split
    · exact hz
    · exact h.one j hj
  · unfold upv
    split
    · next e => subst e; exact hv hdn
    · next e => exact h.ok j hj (hd j hj e hdn)
  · exact blk_set_ne h.rb hne
  · exact h.b.trans ((kset (P := fun q => q = sb) X sb i z rfl).below h.b.size (fun q hq e => by omega))
theorem Lk.cong {p' q' r' d' : Nat} (h : Lk E v sb p q r d V X rb f) (hd : ∀ j, j < 631 → dn p' q' r' d' j → dn p q r d j) : Lk E v sb p' q' r' d' V X rb f := ⟨h.blk, h.one, fun j hj e => h.ok j hj (hd j hj e), h.rb, h.b⟩
theorem sg_up {p : Nat} (h : p < 17) : sg E v (1 + p) = .bool (isN E (p : Int) && E.up p) := by
  unfold sg
  rw [if_neg (by omega), if_pos (by omega), show 1 + p - 1 = p by omega]
theorem sg_inc {p : Nat} (h : p < 17) : sg E v (18 + p) = .int .i64 (if isN E (p : Int) then E.inc p else 0) := by
  unfold sg
  rw [if_neg (by omega), if_neg (by omega), if_pos (by omega), show 18 + p - 18 = p by omega]
theorem sg_tick {p : Nat} (h : p < 17) : sg E v (35 + p) = .int .i64 (if isN E (p : Int) then E.tick p else 0) := by
  unfold sg
  rw [if_neg (by omega), if_neg (by omega), if_neg (by omega), if_pos (by omega), show 35 + p - 35 = p by omega]
theorem sg_open {p q : Nat} (hp : p < 17) (hq : q < 17) : sg E v (52 + p * 17 + q) = .bool (isP E (p : Int) (q : Int) && !E.cut p q) := by
  unfold sg
  rw [if_neg (by omega), if_neg (by omega), if_neg (by omega), if_neg (by omega), if_pos (by omega), show (52 + p * 17 + q - 52) / 17 = p by omega, show (52 + p * 17 + q - 52) % 17 = q by omega]
theorem sg_delay {p q : Nat} (hp : p < 17) (hq : q < 17) : sg E v (341 + p * 17 + q) = .int .i64 (if isP E (p : Int) (q : Int) then E.dl p q else 0) := by
  unfold sg
  rw [if_neg (by omega), if_neg (by omega), if_neg (by omega), if_neg (by omega), if_neg (by omega), if_pos (by omega), show (341 + p * 17 + q - 341) / 17 = p by omega, show (341 + p * 17 + q - 341) % 17 = q by omega]
end
set_option maxHeartbeats 4000000 in
theorem look_any (h : E.Ok w B m) (hlen : E.fs.length ≤ 20000) (hsz : ∀ f ∈ E.fs, f.n ≤ 40000) : Calls Try.prog 17 #[.pointer (some ⟨E.b, 0, none⟩)] w fun e w' => ∃ a L, e = .returned (.agg (rv 631 (sg E (.slice a E.fs.length E.fs.length))).toArray) ∧ RdG w' w.heap.size a E.fs.length E.fs.length L ∧ L.map Fx.d = E.fs.map Fx.d ∧ Below w.heap.size w w' := by
  have HOk : Hid (E.Ok w B m) := h
  have HCk : Hid (∀ X, Below w.heap.size w X → Calls Try.prog 31 #[.pointer (some ⟨E.b, 0, none⟩)] X fun e w' => e = .returned (.int .i64 E.clock) ∧ X = w') := fun X hX => clock_any (h.still hX)
  have HFl : Hid (∀ X, Below w.heap.size w X → Calls Try.prog 15 #[.pointer (some ⟨E.b, 0, none⟩)] X fun e w' => ∃ a L, e = .returned (.slice a E.fs.length E.fs.length) ∧ RdG w' X.heap.size a E.fs.length E.fs.length L ∧ L.map Fx.d = E.fs.map Fx.d ∧ Below X.heap.size X w') := fun X hX => flights2_any (h.still hX) hlen hsz
  have HUp : Hid (∀ X (p : Nat), Below w.heap.size w X → Calls Try.prog 13 #[.pointer (some ⟨E.b, 0, none⟩), .int .i64 (p : Int)] X fun e w' => e = .returned (.bool (isN E (p : Int) && E.up p)) ∧ X = w') := fun X p hX => up_any (h.still hX) p
  have HIn : Hid (∀ X (p : Nat), Below w.heap.size w X → Calls Try.prog 14 #[.pointer (some ⟨E.b, 0, none⟩), .int .i64 (p : Int)] X fun e w' => e = .returned (.int .i64 (if isN E (p : Int) then E.inc p else 0)) ∧ X = w') := fun X p hX => inc_any (h.still hX) p
  have HTi : Hid (∀ X (p : Nat), Below w.heap.size w X → Calls Try.prog 40 #[.pointer (some ⟨E.b, 0, none⟩), .int .i64 (p : Int)] X fun e w' => e = .returned (.int .i64 (if isN E (p : Int) then E.tick p else 0)) ∧ X = w') := fun X p hX => ticks_any (h.still hX) p
  have HOp : Hid (∀ X (p q : Nat), Below w.heap.size w X → Calls Try.prog 30 #[.pointer (some ⟨E.b, 0, none⟩), .int .i64 (p : Int), .int .i64 (q : Int)] X fun e w' => e = .returned (.bool (isP E (p : Int) (q : Int) && !E.cut p q)) ∧ Below X.heap.size X w') := fun X p q hX => open_any (h.still hX) p q
  have HDl : Hid (∀ X (p q : Nat), Below w.heap.size w X → Calls Try.prog 41 #[.pointer (some ⟨E.b, 0, none⟩), .int .i64 (p : Int), .int .i64 (q : Int)] X fun e w' => e = .returned (.int .i64 (if isP E (p : Int) (q : Int) then E.dl p q else 0)) ∧ Below X.heap.size X w') := fun X p q hX => delayOf_any (h.still hX) p q
  have HLs : Hid (∀ f : Nat → Value, (rv 631 f).length = 631) := fun f => rv_len 631 f
  have HSg : Hid (∀ (a : Option Addr) (n c : Nat), ∀ u ∈ rv 631 (sg E (.slice a n c)), u.oneCell' = true) := fun a n c => rv_one (fun i _ => sg_one E a n c i)
  clear h hlen hsz
  generalize E.fs.length = N at *
  go_enter Try.func17, Try.ntmps17
  go_upto_region 2 with (first
    | (refine wl_allocZ rfl 58 rfl zSight ?_; intro W0 k0 b0 s0; have K0 : Hid (W0.heap[w.heap.size]? = some (.cells (rv 631 zs).toArray 58 (0, 0))) := k0; have B0 : Hid (Below w.heap.size w W0) := b0; have S0 : Hid (w.heap.size < W0.heap.size) := s0; clear k0 b0 s0)
    | (go_at_call 31; refine (HCk.out W0 B0.out).mono ?_; rintro e Vx ⟨rfl, rfl⟩)
    | (go_at_call 15; refine (HFl.out W0 B0.out).mono ?_; rintro e W1 ⟨a, L, rfl, hg, hd, hb⟩; have HG : Hid (RdG W1 W0.heap.size a N N L) := hg; have HD : Hid (L.map Fx.d = E.fs.map Fx.d) := hd; have B1 : Hid (Below W0.heap.size W0 W1) := hb; clear hg hd hb)
    | (refine wl_buildZ rfl 58 _ rfl (built_eq (by kernel_rfl) (bSight E.clock a N N)) ?_)
    | (refine wl_allocZ rfl 58 rfl zSight ?_; intro W2 k2 b2 s2; have K2 : Hid (W2.heap[W1.heap.size]? = some (.cells (rv 631 zs).toArray 58 (0, 0))) := k2; have B2 : Hid (Below W1.heap.size W1 W2) := b2; clear k2 b2 s2)
    | (refine wl_storeZ rfl 58 _ _ rfl (L := rv 631 (upv (upv zs 0 (.int .i64 E.clock)) 630 (.slice a N N))) rfl rfl K2.out (by rw [HLs.out]; exact iSi) (by rw [List.size_toArray, HLs.out, HLs.out]) (rv_one (fun i _ => by unfold upv; split; exact rfl; split; exact rfl; exact zs_one i)) ?_; intro W3 k3 kk3; have K3 : Hid (W3.heap[W1.heap.size]? = some (.cells (rv 631 (upv (upv zs 0 (.int .i64 E.clock)) 630 (.slice a N N))).toArray 58 (0, 0))) := k3; have KK3 : Hid (Mb.Kept W2 W3 (fun j => j = W1.heap.size)) := kk3; clear k3 kk3)
    | fail)
  have BW1 : Hid (Below w.heap.size w W1) := bstep B0.out B1.out
  have S1 : Hid (W0.heap.size ≤ W1.heap.size) := B1.out.size
  have B13 : Hid (Below W1.heap.size W1 W3) := (show Below W1.heap.size W1 W3 from B2.out.trans (KK3.out.below B2.out.size (fun q hq e => by have e' : q = W1.heap.size := e; omega)))
  have HL0 : Hid (Lk E (.slice a N N) W1.heap.size 0 0 0 0 W1 W3 w.heap.size (upv (upv zs 0 (.int .i64 E.clock)) 630 (.slice a N N))) := ⟨K3.out, fun i _ => by unfold upv; split; exact rfl; split; exact rfl; exact zs_one i, fun i hi hd => by
      unfold dn at hd
      rcases hd with rfl | rfl | ⟨_, _, h | ⟨h, _⟩⟩ | ⟨_, _, h | ⟨h, _⟩⟩ | ⟨_, _, h | ⟨h, _⟩⟩ | ⟨_, _, h⟩ | ⟨_, _, h⟩ <;> first | omega | (cases h; done) | (simp [upv, sg]; done), by
      have h1 := (B13.out.block _ (by have := S0.out; have := S1.out; omega : w.heap.size < W1.heap.size)).trans ((B1.out.block _ S0.out).trans K0.out)
      exact h1, B13.out⟩
  have Hne : Hid (w.heap.size ≠ W1.heap.size ∧ w.heap.size < W1.heap.size) := ⟨by have := S0.out; have := S1.out; omega, by have := S0.out; have := S1.out; omega⟩
  have Hw1 : Hid (∀ (X : World) (v : Value) (sb' p q r d rb' : Nat) (f : Nat → Value), Lk E v sb' p q r d W1 X rb' f → Below w.heap.size w X) := fun X v sb' p q r d rb' f h => bstep BW1.out h.b
  clear K0 K2 K3 KK3 B2 HCk HFl
  generalize hsb : W1.heap.size = sb at *
  generalize hrb : w.heap.size = rb at *
  have Hsb : Hid (W1.heap.size = sb) := hsb
  have Hrb : Hid (w.heap.size = rb) := hrb
  clear hsb hrb
  go_wp2
  go_loopw [4] (fun i wr => ∃ p f, p ≤ 17 ∧ i = .int .i64 (p : Nat) ∧ Lk E (.slice a N N) sb p 0 0 0 W1 wr rb f) (fun i _ => 17 - (intOf i).toNat)
  case atStart => exact ⟨0, _, Nat.zero_le _, rfl, HL0.out⟩
  case round =>
    as_aux_lemma =>
    obtain ⟨p, f, hp, rfl, hl⟩ := hrel
    have HL : Hid (Lk E (.slice a N N) sb p 0 0 0 W1 wr rb f) := hl
    clear hl HL0
    have i1 : (0 : Int) ≤ (p : Int) := Int.natCast_nonneg _
    by_cases hlt : p < 17
    · have i2 : (p : Int) < 17 := by omega
      have hpc : Hid (∀ (f : Nat → Value) i, i < 631 → i < (rv 631 f).toArray.size) := fun f i hi => by rw [List.size_toArray, HLs.out]; exact hi
      have Hwz : Hid (W1.heap.size ≤ sb ∧ rb ≠ sb) := ⟨by rw [Hsb.out]; exact Nat.le_refl _, Hne.out.1⟩
      have HBr : Hid (Below rb w wr) := Hw1.out wr _ _ _ _ _ _ _ _ HL.out
      go_upto_region 6 with (first
        | (go_at_call 13; refine (HUp.out wr p HBr.out).mono ?_; rintro e Vx ⟨rfl, rfl⟩)
        | (refine wl_stB rfl 4 _ _ rfl (g := sb) (p := 1 + p) rfl rfl HL.out.blk (hpc.out _ _ (by omega)) oneB rfl ?_)
        | fail)
      have HLa : Hid (Lk E (.slice a N N) sb p 0 0 1 W1 (wr.setCell ⟨sb, 1 + p, none⟩ (.bool (isN E (p : Int) && E.up p))) rb (upv f (1 + p) (.bool (isN E (p : Int) && E.up p)))) := HL.out.put (by omega) rfl (fun _ => (sg_up hlt).symm) (fun j hj hji hd => by unfold dn at hd ⊢; omega) Hwz.out.1 Hwz.out.2
      generalize wr.setCell ⟨sb, 1 + p, none⟩ (.bool (isN E (p : Int) && E.up p)) = Ra at *
      generalize upv f (1 + p) (.bool (isN E (p : Int) && E.up p)) = fa at *
      have HBa : Hid (Below rb w Ra) := Hw1.out Ra _ _ _ _ _ _ _ _ HLa.out
      have Hzi : Hid (Calls Try.prog 14 #[.pointer (some ⟨E.b, 0, none⟩), .int .i64 (p : Int)] Ra fun e w' => e = .returned (.int .i64 (if isN E (p : Int) then E.inc p else 0)) ∧ Ra = w') := HIn.out Ra p HBa.out
      have Gzi : Hid (Value.int .i64 (if isN E (p : Int) then E.inc p else 0) = sg E (.slice a N N) (18 + p)) := (sg_inc hlt).symm
      generalize (if isN E (p : Int) then E.inc p else 0) = zi at Hzi Gzi
      go_upto_region 7 with (first
        | (go_at_call 14; refine Hzi.out.mono ?_; rintro e Vx ⟨rfl, rfl⟩)
        | (refine wl_stI rfl 3 _ _ rfl (g := sb) (p := 18 + p) rfl rfl HLa.out.blk (hpc.out _ _ (by omega)) oneI rfl ?_)
        | fail)
      have HLb : Hid (Lk E (.slice a N N) sb p 0 0 2 W1 (Ra.setCell ⟨sb, 18 + p, none⟩ (.int .i64 zi)) rb (upv fa (18 + p) (.int .i64 zi))) := HLa.out.put (by omega) rfl (fun _ => Gzi.out) (fun j hj hji hd => by unfold dn at hd ⊢; omega) Hwz.out.1 Hwz.out.2
      generalize Ra.setCell ⟨sb, 18 + p, none⟩ (.int .i64 zi) = Rb at *
      generalize upv fa (18 + p) (.int .i64 zi) = fb at *
      have HBb : Hid (Below rb w Rb) := Hw1.out Rb _ _ _ _ _ _ _ _ HLb.out
      have Hzt : Hid (Calls Try.prog 40 #[.pointer (some ⟨E.b, 0, none⟩), .int .i64 (p : Int)] Rb fun e w' => e = .returned (.int .i64 (if isN E (p : Int) then E.tick p else 0)) ∧ Rb = w') := HTi.out Rb p HBb.out
      have Gzt : Hid (Value.int .i64 (if isN E (p : Int) then E.tick p else 0) = sg E (.slice a N N) (35 + p)) := (sg_tick hlt).symm
      generalize (if isN E (p : Int) then E.tick p else 0) = zt at Hzt Gzt
      go_upto_region 8 with (first
        | (go_at_call 40; refine Hzt.out.mono ?_; rintro e Vx ⟨rfl, rfl⟩)
        | (refine wl_stI rfl 3 _ _ rfl (g := sb) (p := 35 + p) rfl rfl HLb.out.blk (hpc.out _ _ (by omega)) oneI rfl ?_)
        | fail)
      have HLc : Hid (Lk E (.slice a N N) sb p 0 0 3 W1 (Rb.setCell ⟨sb, 35 + p, none⟩ (.int .i64 zt)) rb (upv fb (35 + p) (.int .i64 zt))) := HLb.out.put (by omega) rfl (fun _ => Gzt.out) (fun j hj hji hd => by unfold dn at hd ⊢; omega) Hwz.out.1 Hwz.out.2
      generalize Rb.setCell ⟨sb, 35 + p, none⟩ (.int .i64 zt) = Rc at *
      generalize upv fb (35 + p) (.int .i64 zt) = fc at *
      clear HL HLa HLb HBr HBa HBb
      go_wp2
      go_loopw [5] (fun i wr => ∃ q f, q ≤ 17 ∧ i = .int .i64 (q : Nat) ∧ Lk E (.slice a N N) sb p q q 3 W1 wr rb f) (fun i _ => 17 - (intOf i).toNat)
      case atStart => exact ⟨0, _, Nat.zero_le _, rfl, HLc.out⟩
      case round =>
        as_aux_lemma =>
        obtain ⟨q, f, hq, rfl, hl⟩ := hrel
        have HL : Hid (Lk E (.slice a N N) sb p q q 3 W1 wr rb f) := hl
        clear hl HLc
        have j1 : (0 : Int) ≤ (q : Int) := Int.natCast_nonneg _
        by_cases hlq : q < 17
        · have j2 : (q : Int) < 17 := by omega
          have HBr : Hid (Below rb w wr) := Hw1.out wr _ _ _ _ _ _ _ _ HL.out
          have HLd : Hid (Lk E (.slice a N N) sb p q q 3 W1 wr.drew rb f) := HL.out.still (Below.refl _ _).drew
          have HBd : Hid (Below rb w wr.drew) := Hw1.out _ _ _ _ _ _ _ _ _ HLd.out
          clear HL HBr
          go_upto_region 11 with fail
          have HLdb : Hid (Below rb w wr.drew) := HBd.out
          refine wp_region_held_drew (S := (fun _ => True)) (by kernel_rfl) trivial (fun hHeld => ?_)
          simp only [Act.put, List.size_toArray, List.length_cons, List.length_nil, Nat.zero_add]
          generalize wr.drew = Wd at *
          refine wpAnyH_take (i := 0) (v := .int .i64 (p : Int)) rfl (by kernel_rfl) (by kernel_rfl) (by kernel_rfl) (fun _ _ _ h => h) (Or.inl ⟨by rfl, fun w' hS => by go_simp⟩) hHeld ?_
          simp only [Act.put, List.getElem_toArray, List.getElem_cons_zero, List.getElem_cons_succ, List.setIfInBounds_toArray, List.set_cons_zero, List.set_cons_succ]
          refine wpAnyH_take (i := 1) (v := .int .i64 (q : Int)) rfl (by kernel_rfl) (by kernel_rfl) (by kernel_rfl) (fun _ _ _ h => h) (Or.inl ⟨by rfl, fun w' hS => by go_simp⟩) hHeld ?_
          simp only [Act.put, List.getElem_toArray, List.getElem_cons_zero, List.getElem_cons_succ, List.setIfInBounds_toArray, List.set_cons_zero, List.set_cons_succ]
          refine wpAnyH_take (i := 2) (v := .pointer (some ⟨E.b, 0, none⟩)) rfl (by kernel_rfl) (by kernel_rfl) (by kernel_rfl) (fun _ _ _ h => h) (Or.inl ⟨by rfl, fun w' hS => by go_simp⟩) hHeld ?_
          simp only [Act.put, List.getElem_toArray, List.getElem_cons_zero, List.getElem_cons_succ, List.setIfInBounds_toArray, List.set_cons_zero, List.set_cons_succ]
          refine wpAnyH_take (i := 3) (v := .int .i64 (p : Int)) rfl (by kernel_rfl) (by kernel_rfl) (by kernel_rfl) (fun _ _ _ h => h) (Or.inl ⟨by rfl, fun w' hS => by go_simp⟩) hHeld ?_
          simp only [Act.put, List.getElem_toArray, List.getElem_cons_zero, List.getElem_cons_succ, List.setIfInBounds_toArray, List.set_cons_zero, List.set_cons_succ]
          refine wpAnyH_take (i := 4) (v := .int .i64 (q : Int)) rfl (by kernel_rfl) (by kernel_rfl) (by kernel_rfl) (fun _ _ _ h => h) (Or.inl ⟨by rfl, fun w' hS => by go_simp⟩) hHeld ?_
          simp only [Act.put, List.getElem_toArray, List.getElem_cons_zero, List.getElem_cons_succ, List.setIfInBounds_toArray, List.set_cons_zero, List.set_cons_succ]
          refine wpAnyH_take (i := 6) (v := .pointer (some ⟨sb, 52, none⟩)) rfl (by kernel_rfl) (by kernel_rfl) (by kernel_rfl) (fun _ _ _ h => h) (Or.inl ⟨by rfl, fun w' hS => by go_simp⟩) hHeld ?_
          simp only [Act.put, List.getElem_toArray, List.getElem_cons_zero, List.getElem_cons_succ, List.setIfInBounds_toArray, List.set_cons_zero, List.set_cons_succ]
          refine wpAnyH_take (i := 7) (v := .pointer (some ⟨sb, 52 + p * 17, none⟩)) rfl (by kernel_rfl) (by kernel_rfl) (by kernel_rfl) (fun _ _ _ h => h) (Or.inl ⟨by rfl, fun w' hS => by go_simp⟩) hHeld ?_
          simp only [Act.put, List.getElem_toArray, List.getElem_cons_zero, List.getElem_cons_succ, List.setIfInBounds_toArray, List.set_cons_zero, List.set_cons_succ]
          refine wpAnyH_ready (rs := [5]) (by kernel_rfl) (by simp) ?_
          refine AllReadyH.cons rfl (fun K hK => ?_) AllReadyH.nil
          go_simp
          refine (HOp.out _ p q HLdb.out).mono ?_
          rintro e Xa0 ⟨rfl, hb⟩
          refine hK.out _ _ trivial (fun hHeld => ?_)
          clear hK K
          try (simp only [Act.put, List.getElem_toArray, List.getElem_cons_zero, List.getElem_cons_succ, List.setIfInBounds_toArray, List.set_cons_zero, List.set_cons_succ])
          have HLe0 : Hid (Lk E (.slice a N N) sb p q q 3 W1 Xa0 rb f) := HLd.out.still hb
          clear hb
          refine wpAnyH_take (i := 8) (v := .pointer (some ⟨sb, 52 + p * 17 + q, none⟩)) rfl (by kernel_rfl) (by kernel_rfl) (by kernel_rfl) (fun _ _ _ h => h) (Or.inl ⟨by rfl, fun w' hS => by go_simp⟩) hHeld ?_
          simp only [Act.put, List.getElem_toArray, List.getElem_cons_zero, List.getElem_cons_succ, List.setIfInBounds_toArray, List.set_cons_zero, List.set_cons_succ]
          refine wpAnyH_ready (rs := [9]) (by kernel_rfl) (by simp) ?_
          refine AllReadyH.cons rfl (fun K hK => ?_) AllReadyH.nil
          refine step_stB rfl 4 _ _ rfl (g := sb) (p := 52 + p * 17 + q) rfl rfl HLe0.out.blk (hpc.out _ _ (by omega)) oneB rfl ?_
          refine hK.out _ _ trivial (fun hHeld => ?_)
          clear hK K
          have HLe : Hid (Lk E (.slice a N N) sb p (q + 1) q 3 W1 (Xa0.setCell ⟨sb, 52 + p * 17 + q, none⟩ (.bool (isP E (p : Int) (q : Int) && !E.cut p q))) rb (upv f (52 + p * 17 + q) (.bool (isP E (p : Int) (q : Int) && !E.cut p q)))) := HLe0.out.put (by omega) rfl (fun _ => (sg_open hlt hlq).symm) (fun j hj hji hd => by unfold dn at hd ⊢; omega) Hwz.out.1 Hwz.out.2
          generalize Xa0.setCell ⟨sb, 52 + p * 17 + q, none⟩ (.bool (isP E (p : Int) (q : Int) && !E.cut p q)) = Xa at *
          generalize upv f (52 + p * 17 + q) (.bool (isP E (p : Int) (q : Int) && !E.cut p q)) = fa2 at *
          clear HLe0
          refine wpAnyH_done (by kernel_rfl) ?_ _
          clear hHeld
          have HLf : Hid (Lk E (.slice a N N) sb p (q + 1) q 3 W1 Xa.drew rb fa2) := HLe.out.still (Below.refl _ _).drew
          have HLfb : Hid (Below rb w Xa.drew) := Hw1.out _ _ _ _ _ _ _ _ _ HLf.out
          clear HLe HLd HLdb HBd
          have Hzd : Hid (∀ X, Below rb w X → Calls Try.prog 41 #[.pointer (some ⟨E.b, 0, none⟩), .int .i64 (p : Int), .int .i64 (q : Int)] X fun e w' => e = .returned (.int .i64 (if isP E (p : Int) (q : Int) then E.dl p q else 0)) ∧ Below X.heap.size X w') := fun X hX => HDl.out X p q hX
          have Gzd : Hid (Value.int .i64 (if isP E (p : Int) (q : Int) then E.dl p q else 0) = sg E (.slice a N N) (341 + p * 17 + q)) := (sg_delay hlt hlq).symm
          generalize (if isP E (p : Int) (q : Int) then E.dl p q else 0) = zd at Hzd Gzd
          go_upto_region 12 with fail
          refine wp_region_held_drew (S := (fun _ => True)) (by kernel_rfl) trivial (fun hHeld => ?_)
          simp only [Act.put, List.size_toArray, List.length_cons, List.length_nil, Nat.zero_add]
          generalize Xa.drew = Wd2 at *
          refine wpAnyH_take (i := 0) (v := .int .i64 (p : Int)) rfl (by kernel_rfl) (by kernel_rfl) (by kernel_rfl) (fun _ _ _ h => h) (Or.inl ⟨by rfl, fun w' hS => by go_simp⟩) hHeld ?_
          simp only [Act.put, List.getElem_toArray, List.getElem_cons_zero, List.getElem_cons_succ, List.setIfInBounds_toArray, List.set_cons_zero, List.set_cons_succ]
          refine wpAnyH_take (i := 1) (v := .int .i64 (q : Int)) rfl (by kernel_rfl) (by kernel_rfl) (by kernel_rfl) (fun _ _ _ h => h) (Or.inl ⟨by rfl, fun w' hS => by go_simp⟩) hHeld ?_
          simp only [Act.put, List.getElem_toArray, List.getElem_cons_zero, List.getElem_cons_succ, List.setIfInBounds_toArray, List.set_cons_zero, List.set_cons_succ]
          refine wpAnyH_take (i := 2) (v := .pointer (some ⟨E.b, 0, none⟩)) rfl (by kernel_rfl) (by kernel_rfl) (by kernel_rfl) (fun _ _ _ h => h) (Or.inl ⟨by rfl, fun w' hS => by go_simp⟩) hHeld ?_
          simp only [Act.put, List.getElem_toArray, List.getElem_cons_zero, List.getElem_cons_succ, List.setIfInBounds_toArray, List.set_cons_zero, List.set_cons_succ]
          refine wpAnyH_take (i := 3) (v := .int .i64 (p : Int)) rfl (by kernel_rfl) (by kernel_rfl) (by kernel_rfl) (fun _ _ _ h => h) (Or.inl ⟨by rfl, fun w' hS => by go_simp⟩) hHeld ?_
          simp only [Act.put, List.getElem_toArray, List.getElem_cons_zero, List.getElem_cons_succ, List.setIfInBounds_toArray, List.set_cons_zero, List.set_cons_succ]
          refine wpAnyH_take (i := 4) (v := .int .i64 (q : Int)) rfl (by kernel_rfl) (by kernel_rfl) (by kernel_rfl) (fun _ _ _ h => h) (Or.inl ⟨by rfl, fun w' hS => by go_simp⟩) hHeld ?_
          simp only [Act.put, List.getElem_toArray, List.getElem_cons_zero, List.getElem_cons_succ, List.setIfInBounds_toArray, List.set_cons_zero, List.set_cons_succ]
          refine wpAnyH_take (i := 6) (v := .pointer (some ⟨sb, 341, none⟩)) rfl (by kernel_rfl) (by kernel_rfl) (by kernel_rfl) (fun _ _ _ h => h) (Or.inl ⟨by rfl, fun w' hS => by go_simp⟩) hHeld ?_
          simp only [Act.put, List.getElem_toArray, List.getElem_cons_zero, List.getElem_cons_succ, List.setIfInBounds_toArray, List.set_cons_zero, List.set_cons_succ]
          refine wpAnyH_take (i := 7) (v := .pointer (some ⟨sb, 341 + p * 17, none⟩)) rfl (by kernel_rfl) (by kernel_rfl) (by kernel_rfl) (fun _ _ _ h => h) (Or.inl ⟨by rfl, fun w' hS => by go_simp⟩) hHeld ?_
          simp only [Act.put, List.getElem_toArray, List.getElem_cons_zero, List.getElem_cons_succ, List.setIfInBounds_toArray, List.set_cons_zero, List.set_cons_succ]
          refine wpAnyH_ready (rs := [5]) (by kernel_rfl) (by simp) ?_
          refine AllReadyH.cons rfl (fun K hK => ?_) AllReadyH.nil
          go_simp
          refine (Hzd.out _ HLfb.out).mono ?_
          rintro e Xb0 ⟨rfl, hb⟩
          refine hK.out _ _ trivial (fun hHeld => ?_)
          clear hK K
          try (simp only [Act.put, List.getElem_toArray, List.getElem_cons_zero, List.getElem_cons_succ, List.setIfInBounds_toArray, List.set_cons_zero, List.set_cons_succ])
          have HLg0 : Hid (Lk E (.slice a N N) sb p (q + 1) q 3 W1 Xb0 rb fa2) := HLf.out.still hb
          clear hb
          refine wpAnyH_take (i := 8) (v := .pointer (some ⟨sb, 341 + p * 17 + q, none⟩)) rfl (by kernel_rfl) (by kernel_rfl) (by kernel_rfl) (fun _ _ _ h => h) (Or.inl ⟨by rfl, fun w' hS => by go_simp⟩) hHeld ?_
          simp only [Act.put, List.getElem_toArray, List.getElem_cons_zero, List.getElem_cons_succ, List.setIfInBounds_toArray, List.set_cons_zero, List.set_cons_succ]
          refine wpAnyH_ready (rs := [9]) (by kernel_rfl) (by simp) ?_
          refine AllReadyH.cons rfl (fun K hK => ?_) AllReadyH.nil
          refine step_stI rfl 3 _ _ rfl (g := sb) (p := 341 + p * 17 + q) rfl rfl HLg0.out.blk (hpc.out _ _ (by omega)) oneI rfl ?_
          refine hK.out _ _ trivial (fun hHeld => ?_)
          clear hK K
          have HLg : Hid (Lk E (.slice a N N) sb p (q + 1) (q + 1) 3 W1 (Xb0.setCell ⟨sb, 341 + p * 17 + q, none⟩ (.int .i64 zd)) rb (upv fa2 (341 + p * 17 + q) (.int .i64 zd))) := HLg0.out.put (by omega) rfl (fun _ => Gzd.out) (fun j hj hji hd => by unfold dn at hd ⊢; omega) Hwz.out.1 Hwz.out.2
          generalize Xb0.setCell ⟨sb, 341 + p * 17 + q, none⟩ (.int .i64 zd) = Xb at *
          generalize upv fa2 (341 + p * 17 + q) (.int .i64 zd) = fb2 at *
          clear HLg0
          refine wpAnyH_done (by kernel_rfl) ?_ _
          clear hHeld
          go_wp2
          exact ⟨⟨q + 1, fb2, by omega, by go_num, HLg.out⟩, by simp [intOf]; omega⟩
        · obtain rfl : q = 17 := by omega
          have HLn : Hid (Lk E (.slice a N N) sb (p + 1) 0 0 0 W1 wr rb f) := HL.out.cong (fun j hj hd => by unfold dn at hd ⊢; omega)
          go_wp2
          exact ⟨⟨p + 1, f, by omega, by go_num, HLn.out⟩, by simp [intOf]; omega⟩
    · obtain rfl : p = 17 := by omega
      have hall : ∀ i, i < 631 → f i = sg E (.slice a N N) i := fun i hi => HL.out.ok i hi (by unfold dn; omega)
      have HK1 : Hid (wr.heap[sb]? = some (.cells (rv 631 (sg E (.slice a N N))).toArray 58 (0, 0))) := by
        have := HL.out.blk
        rwa [rv_congr hall] at this
      have HKr : Hid (wr.rangeAt sb 0 (rv 631 (sg E (.slice a N N)))) := Ln.blk_range HK1.out
      have HR1 : Hid (wr.heap[rb]? = some (.cells (rv 631 zs).toArray 58 (0, 0))) := HL.out.rb
      have HBr : Hid (Below W1.heap.size W1 wr) := HL.out.b
      clear hall HL
      go_wp2_with (first
        | (refine Ln.load_mid 58 (.tmp 3) HKr.out _ Try.underlying58 rfl (by rw [HLs.out]; exact iSi) rfl rfl rfl ?_)
        | (refine wl_storeZ rfl 58 _ _ rfl (L := rv 631 (sg E (.slice a N N))) rfl rfl HR1.out (by rw [HLs.out]; exact iSi) (by rw [List.size_toArray, HLs.out, HLs.out]) (HSg.out a N N) ?_; intro W4 k4 kk4; have K4 : Hid (W4.heap[rb]? = some (.cells (rv 631 (sg E (.slice a N N))).toArray 58 (0, 0))) := k4; have KK4 : Hid (Mb.Kept wr W4 (fun j => j = rb)) := kk4; clear k4 kk4)
        | fail)
      (try simp only [Exit.inBlock, Exit.then])
      refine bodyPost_ret (res_cell rfl _ _ rb (rv 631 (sg E (.slice a N N))) Try.underlying58 rfl (by rw [HLs.out]; exact iSi) rfl (Ln.blk_range K4.out)) rfl ?_
      have hrW : rb < W0.heap.size := by have := S0.out; have := Hrb.out; omega
      have hkw : Kept W1 W4 (fun j => j = rb) := by
        have h1 : Kept W1 wr (fun j => j = rb) := Kept.ofBelow HBr.out _
        exact h1.trans ⟨KK4.out.os, KK4.out.tape, KK4.out.output, KK4.out.size, KK4.out.block⟩
      refine ⟨a, L, rfl, ?_, HD.out, ?_⟩
      · have hg := HG.out.keep hkw (fun j hj e => by subst e; omega)
        exact ⟨hg.len, own_lower hg.row (by have := Hrb.out; omega), fun i hi => ⟨own_lower (hg.byt i hi).1 (by have := Hrb.out; omega), (hg.byt i hi).2⟩, hg.ap⟩
      · rw [Hrb.out]
        have h1 := BW1.out
        have h2 := Hrb.out
        rw [← h2] at h1
        have h3 := bstep h1 HBr.out
        rw [h2] at h3
        have h4 := h3.size
        rw [h2] at h4
        exact h3.trans ((KK4.out.below h4 (fun k hk e => by have e' : k = rb := e; omega)))
end
end Go.Proofs.Ytnhhjelplmdloaa.Et
namespace Go.Proofs.Ytnhhjelplmdloaa.Et
open Go.RowKit Go.Maps
set_option linter.unusedVariables false
set_option linter.unusedSimpArgs false
set_option maxRecDepth 100000
section
variable {E E1 E' : En} {w w' w1 w2 w3 : World} {B K m : Nat}
def sL (E : En) (o n : Nat) : List Value := rv n (fun i => sg E undef (o + i))
theorem sg_v {v v' : Value} {i : Nat} (h : i < 630) : sg E v i = sg E v' i := by
  unfold sg
  repeat' split
  all_goals first | rfl | omega
theorem range_sub {kb o n : Nat} {v : Value} (h : w.rangeAt kb 0 (rv 631 (sg E v))) (ho : o + n ≤ 630) : w.rangeAt kb o (sL E o n) := by
  intro j u hu
  have hj : j < n := by
    have := (List.getElem?_eq_some_iff.1 hu).1
    rwa [sL, rv_len] at this
  rw [sL, rv_get _ hj] at hu
  have := h (o + j) u (by rw [rv_get _ (by omega), ← hu]; exact congrArg some (sg_v (by omega)))
  rwa [Nat.zero_add] at this
theorem sL_len (E : En) (o n : Nat) : (sL E o n).length = n := rv_len _ _
theorem sL_at {o n i : Nat} (h : i < n) : (sL E o n)[i]? = some (sg E undef (o + i)) := rv_get _ h
theorem sL_1b {i : Nat} (h : i < 17) : ∃ b : Bool, (sL E 1 17)[i]? = some (.bool b) := ⟨_, by rw [sL_at h, sg_up h]⟩
theorem sL_2i {i : Nat} (h : i < 17) : ∃ b : Int, (sL E 18 17)[i]? = some (.int .i64 b) := ⟨_, by rw [sL_at h, sg_inc h]⟩
theorem sL_3i {i : Nat} (h : i < 17) : ∃ b : Int, (sL E 35 17)[i]? = some (.int .i64 b) := ⟨_, by rw [sL_at h, sg_tick h]⟩
theorem sL_4b {i : Nat} (h : i < 289) : ∃ b : Bool, (sL E 52 289)[i]? = some (.bool b) := ⟨_, by rw [sL_at h, show 52 + i = 52 + i / 17 * 17 + i % 17 by omega, sg_open (by omega) (Nat.mod_lt _ (by omega))]⟩
theorem sL_5i {i : Nat} (h : i < 289) : ∃ b : Int, (sL E 341 289)[i]? = some (.int .i64 b) := ⟨_, by rw [sL_at h, show 341 + i = 341 + i / 17 * 17 + i % 17 by omega, sg_delay (by omega) (Nat.mod_lt _ (by omega))]⟩
theorem i1b : (Try.prog.info? 53).map (·.size) = some 17 := by kernel_rfl
theorem i1i : (Try.prog.info? 54).map (·.size) = some 17 := by kernel_rfl
theorem i2b : (Try.prog.info? 55).map (·.size) = some 289 := by kernel_rfl
theorem i2i : (Try.prog.info? 56).map (·.size) = some 289 := by kernel_rfl
set_option maxHeartbeats 4000000 in
theorem is_any {a1 a2 : Option Addr} {n c1 c2 : Nat} {ds : List Fd} (h1 : RdF w a1 n ds) (h2 : RdF w a2 n ds) (hn : n ≤ 2199023255552) : Calls Try.prog 18 #[.agg (rv 631 (sg E (.slice a1 n c1))).toArray, .agg (rv 631 (sg E (.slice a2 n c2))).toArray] w fun e w' => e = .returned (.bool true) ∧ Below w.heap.size w w' := by
  generalize hW1 : w.alloc (.cells (rv 631 (sg E (.slice a1 n c1))).toArray 58) = W1
  generalize hW2 : W1.alloc (.cells (rv 631 (sg E (.slice a2 n c2))).toArray 58) = W2
  have b1 : Below w.heap.size w W1 := hW1 ▸ balloc (Below.refl _ _)
  have b2 : Below W1.heap.size W1 W2 := hW2 ▸ balloc (Below.refl _ _)
  have p1 : W2.heap[w.heap.size]? = some (.cells (rv 631 (sg E (.slice a1 n c1))).toArray 58 (0, 0)) := by
    have := heap_alloc_new w (.cells (rv 631 (sg E (.slice a1 n c1))).toArray 58)
    rw [hW1] at this
    exact (b2.block _ (lt_heap this)).trans this
  have p2 : W2.heap[W1.heap.size]? = some (.cells (rv 631 (sg E (.slice a2 n c2))).toArray 58 (0, 0)) := by rw [← hW2]; exact heap_alloc_new W1 _
  have bb : Below w.heap.size w W2 := bstep b1 b2
  have HB : Hid (Below w.heap.size w W2) := bb
  have r1 := Ln.blk_range p1
  have r2 := Ln.blk_range p2
  have HR1 : Hid (∀ o n, o + n ≤ 630 → W2.rangeAt w.heap.size o (sL E o n)) := fun o n h => range_sub r1 h
  have HR2 : Hid (∀ o n, o + n ≤ 630 → W2.rangeAt W1.heap.size o (sL E o n)) := fun o n h => range_sub r2 h
  have c01 : W2.cell? ⟨w.heap.size, 0, none⟩ = some (.int .i64 E.clock) := (r1 0 _ (rv_get _ (by omega))).trans rfl
  have c02 : W2.cell? ⟨W1.heap.size, 0, none⟩ = some (.int .i64 E.clock) := (r2 0 _ (rv_get _ (by omega))).trans rfl
  have c61 : W2.cell? ⟨w.heap.size, 630, none⟩ = some (.slice a1 n c1) := (r1 630 _ (rv_get _ (by omega))).trans rfl
  have c62 : W2.cell? ⟨W1.heap.size, 630, none⟩ = some (.slice a2 n c2) := (r2 630 _ (rv_get _ (by omega))).trans rfl
  have HLs : Hid (Calls Try.prog 22 #[.slice a1 n c1, .slice a2 n c2] W2 fun e w' => e = .returned (.bool true) ∧ Below W2.heap.size W2 w') := lists_any (h1.still bb) (h2.still bb) hn
  have HL : Hid (∀ o n, (sL E o n).length = n) := sL_len E
  have E1 : Hid (∀ X, (Op.equalIn 10000 53 (.agg (sL E 1 17).toArray) (.agg (sL E 1 17).toArray)).run Try.prog X = .ok true X) := fun X => eq_1B 9998 _ (fun i hi => sL_1b hi)
  have E2 : Hid (∀ X, (Op.equalIn 10000 54 (.agg (sL E 18 17).toArray) (.agg (sL E 18 17).toArray)).run Try.prog X = .ok true X) := fun X => eq_1I 9998 _ (fun i hi => sL_2i hi)
  have E3 : Hid (∀ X, (Op.equalIn 10000 54 (.agg (sL E 35 17).toArray) (.agg (sL E 35 17).toArray)).run Try.prog X = .ok true X) := fun X => eq_1I 9998 _ (fun i hi => sL_3i hi)
  have E4 : Hid (∀ X, (Op.equalIn 10000 55 (.agg (sL E 52 289).toArray) (.agg (sL E 52 289).toArray)).run Try.prog X = .ok true X) := fun X => eq_2B 9997 _ (sL_len E 52 289) (fun i hi => sL_4b hi)
  have E5 : Hid (∀ X, (Op.equalIn 10000 56 (.agg (sL E 341 289).toArray) (.agg (sL E 341 289).toArray)).run Try.prog X = .ok true X) := fun X => eq_2I 9997 _ (sL_len E 341 289) (fun i hi => sL_5i hi)
  clear p1 p2 r1 r2 b1 b2 bb h1 h2
  generalize (rv 631 (sg E (.slice a1 n c1))).toArray = pc at hW1 ⊢
  generalize (rv 631 (sg E (.slice a2 n c2))).toArray = pd at hW2 ⊢
  go_enter Try.func18, Try.ntmps18
  go_upto_region 1 with fail
  clear hW1 hW2
  generalize hkb : w.heap.size = kb at *
  generalize hdb : W1.heap.size = db at *
  have Hkb : Hid (w.heap.size = kb) := hkb
  clear hkb hdb
  go_wp2_with (first
    | (refine Ln.load_mid 53 (.tmp 11) (HR1.out 1 17 (by omega)) _ Try.underlying53 rfl (by rw [HL.out]; exact i1b) rfl rfl rfl ?_)
    | (refine Ln.load_mid 53 (.tmp 13) (HR2.out 1 17 (by omega)) _ Try.underlying53 rfl (by rw [HL.out]; exact i1b) rfl rfl rfl ?_)
    | (refine Ln.eql_step 53 (.tmp 12) (.tmp 14) 53 (E1.out _) (by kernel_rfl) rfl rfl rfl rfl ?_)
    | (refine Ln.load_mid 54 (.tmp 18) (HR1.out 18 17 (by omega)) _ Try.underlying54 rfl (by rw [HL.out]; exact i1i) rfl rfl rfl ?_)
    | (refine Ln.load_mid 54 (.tmp 20) (HR2.out 18 17 (by omega)) _ Try.underlying54 rfl (by rw [HL.out]; exact i1i) rfl rfl rfl ?_)
    | (refine Ln.eql_step 54 (.tmp 19) (.tmp 21) 54 (E2.out _) (by kernel_rfl) rfl rfl rfl rfl ?_)
    | (refine Ln.load_mid 54 (.tmp 25) (HR1.out 35 17 (by omega)) _ Try.underlying54 rfl (by rw [HL.out]; exact i1i) rfl rfl rfl ?_)
    | (refine Ln.load_mid 54 (.tmp 27) (HR2.out 35 17 (by omega)) _ Try.underlying54 rfl (by rw [HL.out]; exact i1i) rfl rfl rfl ?_)
    | (refine Ln.eql_step 54 (.tmp 26) (.tmp 28) 54 (E3.out _) (by kernel_rfl) rfl rfl rfl rfl ?_)
    | (refine Ln.load_mid 55 (.tmp 32) (HR1.out 52 289 (by omega)) _ Try.underlying55 rfl (by rw [HL.out]; exact i2b) rfl rfl rfl ?_)
    | (refine Ln.load_mid 55 (.tmp 34) (HR2.out 52 289 (by omega)) _ Try.underlying55 rfl (by rw [HL.out]; exact i2b) rfl rfl rfl ?_)
    | (refine Ln.eql_step 55 (.tmp 33) (.tmp 35) 55 (E4.out _) (by kernel_rfl) rfl rfl rfl rfl ?_)
    | (refine Ln.load_mid 56 (.tmp 39) (HR1.out 341 289 (by omega)) _ Try.underlying56 rfl (by rw [HL.out]; exact i2i) rfl rfl rfl ?_)
    | (refine Ln.load_mid 56 (.tmp 41) (HR2.out 341 289 (by omega)) _ Try.underlying56 rfl (by rw [HL.out]; exact i2i) rfl rfl rfl ?_)
    | (refine Ln.eql_step 56 (.tmp 40) (.tmp 42) 56 (E5.out _) (by kernel_rfl) rfl rfl rfl rfl ?_)
    | (go_at_call 22; refine HLs.out.mono ?_; rintro e W3 ⟨rfl, hb3⟩; have B3 : Hid (Below W2.heap.size W2 W3) := hb3; clear hb3)
    | fail)
  go_ret
  have h2 := HB.out.size
  rw [Hkb.out] at h2
  exact ⟨rfl, by rw [Hkb.out]; exact HB.out.trans (B3.out.mono h2)⟩
end
end Go.Proofs.Ytnhhjelplmdloaa.Et
