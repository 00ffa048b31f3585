import Derived.Test.YtmphabgpabbbjabDoorUo
import Derived.Test.YtmphabgpabbbjabDoorUd
namespace Go.Proofs.YtmphabgpabbbjabDoor.Fg
open Go.RowKit Mb
set_option linter.unusedVariables false
set_option maxRecDepth 100000
set_option linter.unusedSimpArgs false
section
variable {w w' W : World} {B : Nat}
theorem spl_fill (T c : List Int) (k : Nat) (h : c.length ≤ k) : spl (T ++ List.replicate k 0) T.length c = T ++ c ++ List.replicate (k - c.length) 0 := by
  unfold spl
  rw [List.take_append_of_le_length (Nat.le_refl _), List.take_length, List.drop_append, List.drop_of_length_le (by omega), List.nil_append, show T.length + c.length - T.length = c.length by omega, List.drop_replicate]
def cats (b : List Int) (i : Nat) : List Int := ((List.range i).map (chunk b)).flatten
theorem cats_succ (b : List Int) (i : Nat) : cats b (i + 1) = cats b i ++ chunk b i := by simp [cats, List.range_succ]
theorem cats_len {b : List Int} (h : b.length ≤ 4000) : ∀ i, i < cnt b.length → (cats b i).length = i * 256
  | 0, _ => rfl
  | i + 1, hi => by
      rw [cats_succ, List.length_append, cats_len h i (by omega), chunk_len]
      unfold cnt at hi
      rw [if_pos h] at hi
      omega
theorem cnt_pos {n : Nat} (h : n ≤ 4000) : 1 ≤ cnt n := by unfold cnt; rw [if_pos h]; omega
theorem cats_all {b : List Int} (h : b.length ≤ 4000) : (cats b (cnt b.length)).length = cnt b.length * 8 + b.length := by
  have hp := cnt_pos h
  obtain ⟨j, hj⟩ : ∃ j, cnt b.length = j + 1 := ⟨cnt b.length - 1, by omega⟩
  rw [hj, cats_succ, List.length_append, cats_len h j (by omega), chunk_len]
  unfold cnt at hj
  rw [if_pos h] at hj
  omega
theorem cats_by {b : List Int} (h : By b) (i : Nat) : By (cats b i) := By.of fun x hx => by
  obtain ⟨c, hc, hx⟩ := List.mem_flatten.1 hx
  obtain ⟨k, _, rfl⟩ := List.mem_map.1 hc
  exact (chunk_by h k).mem x hx
theorem chunk_hd (b : List Int) (k : Nat) : chunk b k = hdB b.length (k * 248) (crc b) ++ (b.drop (k * 248)).take 248 := by simp [chunk, hdB]
theorem cats_part {b : List Int} : ∀ (m i : Nat), i < m → ((cats b m).drop (cats b i).length).take (chunk b i).length = chunk b i
  | 0, i, h => by omega
  | m + 1, i, h => by
      rw [cats_succ]
      by_cases e : i = m
      · subst e
        rw [List.drop_append_of_le_length (Nat.le_refl _), List.drop_length, List.nil_append, List.take_of_length_le (Nat.le_refl _)]
      · have ih := cats_part (b := b) m i (by omega)
        have hl : (cats b i).length + (chunk b i).length ≤ (cats b m).length := by
          have h2 : ∀ j, i + 1 ≤ j → (cats b (i + 1)).length ≤ (cats b j).length := fun j hj => by
            induction j with
            | zero => omega
            | succ j ihj =>
              by_cases e2 : i + 1 = j + 1
              · rw [e2]; exact Nat.le_refl _
              · rw [cats_succ b j, List.length_append]
                have := ihj (by omega)
                omega
          have := h2 m (by omega)
          rwa [cats_succ, List.length_append] at this
        rw [List.drop_append_of_le_length (by omega), List.take_append_of_le_length (by rw [List.length_drop]; omega)]
        exact ih
def rowF (gr n : Nat) (i j : Nat) : Value := if j < i then .slice (some ⟨gr, j * 256, none⟩) (8 + min 248 (n - j * 248)) (8 + min 248 (n - j * 248)) else .slice none 0 0
theorem rows_info : ∃ i : TypeInfo, Tryd.prog.info? 32 = some i ∧ i.zero = some (.slice none 0 0) ∧ i.size = 1 ∧ i.bytes = 24 := by
  have h : (Tryd.prog.info? 32).map (fun i => (i.zero, i.size, i.bytes)) = some (some (.slice none 0 0), 1, 24) := by kernel_rfl
  cases hq : Tryd.prog.info? 32 with
  | none => rw [hq] at h; cases h
  | some i => rw [hq] at h; simp at h; exact ⟨i, rfl, h.1, h.2.1, h.2.2⟩
theorem wl_makeR {ops : Array Oper} {rest : List Oper} {o : Oper} {a : Act} {Q : Exit → Act → World → Prop} (hg : o.guard = none) (l c : Operand) (hop : o.op = Op.makeSlice 41 l c) (x y : Int) (n : Nat) (hl : a.eval l = .int .i64 x) (hc : a.eval c = .int .i64 y) (hx : x = (n : Int)) (hy : y = (n : Int)) (hn : n ≤ 1000000)
    (h : ∀ w', Fb w' w.heap.size 32 n (fun _ => .slice none 0 0) → Below w.heap.size w w' → wpList Tryd.prog ops Q rest (a.put o.dst (.slice (some ⟨w.heap.size, 0, none⟩) n n)) w') : wpList Tryd.prog ops Q (o :: rest) a w := by
  obtain ⟨i0, hi, hz0, hz1, hz2⟩ := rows_info
  refine wpList_make_full w hg l c 41 hop w.heap.size 32 i0 (.slice none 0 0) 1 Tryd.underlying41 hi hz0 hz1 .i64 .i64 x y n hl hc hx hy (by rw [hz2]; omega) (by unfold maxLen; omega) (Nat.le_refl _) fun w1 hown hgrow => h w1 ?_ ((Below.refl _ w).grown hgrow (Nat.le_refl _) (fun k hk => by cases hk))
  rcases hown.2 with ⟨h3, _⟩ | ⟨g, cap, cur, hv, hg, hh, hr1, hr2, hr3, hr4⟩
  · cases h3
  · simp at hv
    obtain ⟨hg', rfl⟩ := hv
    subst hg'
    refine ⟨cur, hh, by omega, fun i hi => ?_⟩
    have e1 : cur[i]? = (cur.toList.take (n * 1))[i]? := by rw [List.getElem?_take]; simp [hi]
    rw [e1, hr4]
    simp [madeCells, hi, Value.cells, Nat.mod_one]
theorem wl_makeB {ops : Array Oper} {rest : List Oper} {o : Oper} {a : Act} {Q : Exit → Act → World → Prop} (hg : o.guard = none) (l c : Operand) (hop : o.op = Op.makeSlice 32 l c) (x y : Int) (n : Nat) (hl : a.eval l = .int .i64 x) (hc : a.eval c = .int .i64 y) (hx : x = (n : Int)) (hy : y = (n : Int)) (hn : n ≤ 1000000)
    (h : ∀ w', Bk w' w.heap.size (List.replicate n 0) → Below w.heap.size w w' → wpList Tryd.prog ops Q rest (a.put o.dst (.slice (some ⟨w.heap.size, 0, none⟩) n n)) w') : wpList Tryd.prog ops Q (o :: rest) a w := by
  obtain ⟨si, shi, shz0, shz1, shz2⟩ := byte_info
  refine wpList_make_full w hg l c 32 hop w.heap.size 5 si (.int .u8 0) 1 Tryd.underlying32 shi shz0 shz1 .i64 .i64 x y n hl hc hx hy (by rw [shz2]; omega) (by unfold maxLen; omega) (Nat.le_refl _) fun w1 hown hgrow => h w1 ?_ ((Below.refl _ w).grown hgrow (Nat.le_refl _) (fun k hk => by cases hk))
  rcases hown.2 with ⟨h3, _⟩ | ⟨g, cap, cur, hv, hg, hh, hr1, hr2, hr3, hr4⟩
  · cases h3
  · simp at hv
    obtain ⟨hg', rfl⟩ := hv
    subst hg'
    unfold Bk
    rw [hh, byts_rep]
    have e : cur.toList = List.replicate n (.int .u8 0) := by
      have := hr4
      rw [List.take_of_length_le (by simp [hr3])] at this
      rw [this]
      simp only [Nat.mul_one]
      exact toList_madeCells_one _ _
    have : cur = (List.replicate n (Value.int .u8 0)).toArray := Array.ext' (by rw [e])
    rw [this]
theorem step_copyM {ops : Array Oper} {o : Oper} {a : Act} {K : Act → World → Prop} {Q : Exit → Act → World → Prop} {E : Prop} (hgd : o.guard = none) (d s : Operand) (ho : o.op = .call { callee := .builtin .copy, args := #[d, s], argTypes := #[32, 32] })
    (dp sp : Option Addr) (dLen dCap sLen sCap : Nat) (hd : a.eval d = .slice dp dLen dCap) (hs : a.eval s = .slice sp sLen sCap) {g off : Nat} {L xs : List Int} (hb : Bk w g L) (hr : Rd w sp sLen sCap xs) (hdp : 0 < dLen → dp = some ⟨g, off, none⟩) (hfit : off + dLen ≤ L.length)
    (h : ∀ w' (m : Nat), Bk w' g (spl L off (xs.take dLen)) → Kept w w' (fun k => k = g) → K (a.put o.dst (.int .i64 (m : Int))) w') : if Region.wanted o (yielded ops a.tmps) = true then Oper.wp Tryd.prog o a w K Q else E := by
  have hw : Region.wanted o (yielded ops a.tmps) = true := by simp [Region.wanted, hgd]
  rw [if_pos hw]
  have hsz : (Tryd.prog.info? 5).map (·.size) = some 1 := by kernel_rfl
  have hl := hr.len
  by_cases h0 : Nat.min sLen dLen = 0
  · have hrun := run_copy_none (P := Tryd.prog) w 32 32 o.type 5 dp sp dLen dCap sLen sCap Tryd.underlying32 hsz h0
    unfold Oper.wp
    simp [execOp, ho, resolve, invoke, builtin, hd, hs, hrun, Result.andThen]
    have e : xs.take dLen = [] := List.eq_nil_of_length_eq_zero (by rw [List.length_take, hl, Nat.min_comm]; exact h0)
    exact h w 0 (by rw [e]; simpa [spl] using hb) (Kept.refl _ _)
  · have hd0 : 0 < dLen := by rcases Nat.eq_zero_or_pos dLen with e | e; (exact absurd (by rw [e]; exact Nat.min_zero _) h0); exact e
    have hs0 : 0 < sLen := by rcases Nat.eq_zero_or_pos sLen with e | e; (exact absurd (by rw [e]; exact Nat.zero_min _) h0); exact e
    obtain rfl := hdp hd0
    rcases hr.at_ with h1 | ⟨b', off', rfl, hc⟩
    · omega
    · have hcs : (byts (xs.take dLen)).length = Nat.min sLen dLen := by rw [byts_len, List.length_take, hl, Nat.min_comm]
      have hmd : Nat.min sLen dLen ≤ dLen := Nat.min_le_right _ _
      have hrun := run_copy_row (P := Tryd.prog) w 32 32 o.type 5 g off dLen dCap ⟨b', off', none⟩ sLen sCap (byts L).toArray 5 (byts (xs.take dLen)) Tryd.underlying32 hsz hb hcs (fun j v hv => hr.news _ rfl j v (by
        have : byts (xs.take dLen) = (byts xs).take dLen := by simp [byts, List.map_take]
        rw [this, List.getElem?_take] at hv
        split at hv
        · exact hv
        · cases hv)) (by rw [hcs]; simp [byts_len]; omega) (byts_one _)
      have e : ((byts L).toArray.toList.take off ++ byts (xs.take dLen) ++ (byts L).toArray.toList.drop (off + (byts (xs.take dLen)).length)) = byts (spl L off (xs.take dLen)) := by
        simp [byts, spl, List.map_take, List.map_drop]
      rw [e] at hrun
      unfold Oper.wp
      simp [execOp, ho, resolve, invoke, builtin, hd, hs, hrun, Result.andThen]
      exact h _ _ (setRow_heap w g _ _ _ _ hb) (kset_row _ _ _ rfl)
theorem Rd.from {ao A5 : Option Addr} {n c lo : Nat} {b : List Int} (h : Rd w ao n c b) (hA : (if c = lo then ao else Option.map (fun x => x.add lo) ao) = A5) (hlo : lo ≤ n) : Rd w A5 (n - lo) (c - lo) (b.drop lo) := by
  have hl := h.len
  have hc := h.cap
  refine ⟨by rw [List.length_drop, hl], by omega, fun he => ?_, ?_, h.by_.drop lo⟩
  · rw [he] at hA
    by_cases e : c = lo
    · omega
    · rw [if_neg e] at hA
      cases ao with
      | none => have := h.nil rfl; omega
      | some a => simp at hA
  · by_cases e0 : n - lo = 0
    · exact .inl e0
    · rcases h.at_ with h0 | ⟨bb, off, he, hcell⟩
      · omega
      · rw [if_neg (by omega), he] at hA
        refine .inr ⟨bb, off + lo, by rw [← hA]; show some (Addr.add ⟨bb, off, none⟩ lo) = _; rw [Addr.add_mid], fun j hj => ?_⟩
        rw [Nat.add_assoc, hcell (lo + j) (by omega)]
        congr 2
        simp [List.getD]
theorem cats_mono (b : List Int) {i j : Nat} (h : i ≤ j) : (cats b i).length ≤ (cats b j).length := by
  induction j with
  | zero => obtain rfl : i = 0 := by omega
            exact Nat.le_refl _
  | succ j ih =>
    by_cases e : i = j + 1
    · rw [e]; exact Nat.le_refl _
    · rw [cats_succ b j, List.length_append]
      have := ih (by omega)
      omega
structure Sp (w wr : World) (n q N gc gr kd ri : Nat) (L : List Int) (pv : Int) : Prop where
  row : Fb wr gc 32 N (rowF gr n ri)
  bk : Bk wr gr L
  hx : wr.heap[kd]? = some (.cells #[.int .i64 (n : Int), .int .i64 pv, .int .i64 (q : Int)] 53 (0, 0))
  bel : Below gc w wr
  o1 : gc < gr
  o2 : gr < kd
theorem Sp.still {wr wr' : World} {n q N gc gr kd ri : Nat} {L : List Int} {pv : Int} (h : Sp w wr n q N gc gr kd ri L pv) (hb : Below wr.heap.size wr wr') : Sp w wr' n q N gc gr kd ri L pv :=
  ⟨h.row.keep (Kept.ofBelow hb (fun _ => False)) id, h.bk.still hb, (hb.block _ (lt_heap h.hx)).trans h.hx, h.bel.trans (hb.mono (Nat.le_of_lt h.row.lt)), h.o1, h.o2⟩
theorem Sp.place {wr : World} {n q N gc gr kd ri : Nat} {L : List Int} {pv : Int} (h : Sp w wr n q N gc gr kd ri L pv) (x : Int) : Sp w (wr.setCell ⟨kd, 1, none⟩ (.int .i64 x)) n q N gc gr kd ri L x := by
  have hk := kset wr kd 1 (.int .i64 x) (P := fun j => j = kd) rfl
  have h1 := h.o1
  have h2 := h.o2
  exact ⟨h.row.keep hk (by omega), h.bk.keep hk (by omega), blk_set (cs' := #[.int .i64 (n : Int), .int .i64 x, .int .i64 (q : Int)]) h.hx rfl, h.bel.trans (hk.below (Nat.le_of_lt h.row.lt) (fun j hj => by omega)), h1, h2⟩
theorem Sp.bytes {wr wr' : World} {n q N gc gr kd ri : Nat} {L L' : List Int} {pv : Int} (h : Sp w wr n q N gc gr kd ri L pv) (hb : Bk wr' gr L') (k : Kept wr wr' (fun j => j = gr)) : Sp w wr' n q N gc gr kd ri L' pv := by
  have h1 := h.o1
  have h2 := h.o2
  exact ⟨h.row.keep k (by omega), hb, k.obj h.hx (by omega), h.bel.trans (k.below (Nat.le_of_lt h.row.lt) (fun j hj => by omega)), h1, h2⟩
theorem Sp.next {wr : World} {n q N gc gr kd ri : Nat} {L : List Int} {pv : Int} (h : Sp w wr n q N gc gr kd ri L pv) {e : Nat} (he : e = 8 + min 248 (n - ri * 248)) : Sp w (wr.setCell ⟨gc, ri, none⟩ (.slice (some ⟨gr, ri * 256, none⟩) e e)) n q N gc gr kd (ri + 1) L pv := by
  subst he
  have hk := kset wr gc ri (.slice (some ⟨gr, ri * 256, none⟩) (8 + min 248 (n - ri * 248)) (8 + min 248 (n - ri * 248))) (P := fun j => j = gc) rfl
  have h1 := h.o1
  have h2 := h.o2
  refine ⟨(h.row.set ri _).congr fun j hj => ?_, h.bk.keep hk (by omega), hk.obj h.hx (by omega), h.bel.trans (hk.below (Nat.le_of_lt h.row.lt) (fun j hj => by omega)), h1, h2⟩
  unfold rowF
  by_cases e : j = ri
  · subst e
    rw [if_pos rfl, if_pos (by omega)]
  · rw [if_neg e]
    by_cases e2 : j < ri
    · rw [if_pos e2, if_pos (by omega)]
    · rw [if_neg e2, if_neg (by omega)]
theorem Sp.x {wr : World} {n q N gc gr kd ri : Nat} {L : List Int} {pv : Int} (h : Sp w wr n q N gc gr kd ri L pv) : wr.cell? ⟨kd, 0, none⟩ = some (.int .i64 (n : Int)) ∧ wr.cell? ⟨kd, 1, none⟩ = some (.int .i64 pv) ∧ wr.cell? ⟨kd, 2, none⟩ = some (.int .i64 (q : Int)) := ⟨blk_cell h.hx 0, blk_cell h.hx 1, blk_cell h.hx 2⟩
theorem Sp.c {wr : World} {n q N gc gr kd ri : Nat} {L : List Int} {pv : Int} (h : Sp w wr n q N gc gr kd (ri + 1) L pv) (hi : ri < N) {e : Nat} (he : e = 8 + min 248 (n - ri * 248)) : wr.cell? ⟨gc, ri, none⟩ = some (.slice (some ⟨gr, ri * 256, none⟩) e e) := by
  rw [h.row.cell _ hi]
  unfold rowF
  rw [if_pos (by omega), he]
end
end Go.Proofs.YtmphabgpabbbjabDoor.Fg
