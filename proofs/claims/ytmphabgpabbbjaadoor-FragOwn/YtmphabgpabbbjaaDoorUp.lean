import Derived.Test.YtmphabgpabbbjaaDoorUo
import Derived.Test.YtmphabgpabbbjaaDoorUd
namespace Go.Proofs.YtmphabgpabbbjaaDoor.Fg
open Go.RowKit Mb
set_option linter.unusedVariables false
set_option maxRecDepth 100000
set_option linter.unusedSimpArgs false
section
variable {w w' W : World} {B : Nat}
theorem spl_fill (T c : List Int) (k : Nat) (h : c.length ≤ k) : spl (T ++ List.replicate k 0) T.length c = T ++ c ++ List.replicate (k - c.length) 0 := by
  unfold spl
  rw [List.take_append_of_le_length (Nat.le_refl _), List.take_length, List.drop_append, List.drop_of_length_le (by omega), List.nil_append, show T.length + c.length - T.length = c.length by omega, List.drop_replicate]
def cats (b : List Int) (i : Nat) : List Int := ((List.range i).map (chunk b)).flatten
theorem cats_succ (b : List Int) (i : Nat) : cats b (i + 1) = cats b i ++ chunk b i := by simp [cats, List.range_succ]
theorem cats_len {b : List Int} (h : b.length ≤ 4000) : ∀ i, i < cnt b.length → (cats b i).length = i * 256
  | 0, _ => rfl
  | i + 1, hi => by
      rw [cats_succ, List.length_append, cats_len h i (by omega), chunk_len]
      unfold cnt at hi
      rw [if_pos h] at hi
      omega
theorem cnt_pos {n : Nat} (h : n ≤ 4000) : 1 ≤ cnt n := by unfold cnt; rw [if_pos h]; omega
theorem cats_all {b : List Int} (h : b.length ≤ 4000) : (cats b (cnt b.length)).length = cnt b.length * 8 + b.length := by
  have hp := cnt_pos h
  obtain ⟨j, hj⟩ : ∃ j, cnt b.length = j + 1 := ⟨cnt b.length - 1, by omega⟩
  rw [hj, cats_succ, List.length_append, cats_len h j (by omega), chunk_len]
  unfold cnt at hj
  rw [if_pos h] at hj
  omega
theorem cats_by {b : List Int} (h : By b) (i : Nat) : By (cats b i) := By.of fun x hx => by
  obtain ⟨c, hc, hx⟩ := List.mem_flatten.1 hx
  obtain ⟨k, _, rfl⟩ := List.mem_map.1 hc
  exact (chunk_by h k).mem x hx
theorem chunk_hd (b : List Int) (k : Nat) : chunk b k = hdB b.length (k * 248) (crc b) ++ (b.drop (k * 248)).take 248 := by simp [chunk, hdB]
theorem cats_part {b : List Int} : ∀ (m i : Nat), i < m → ((cats b m).drop (cats b i).length).take (chunk b i).length = chunk b i
  | 0, i, h => by omega
  | m + 1, i, h => by
      rw [cats_succ]
      by_cases e : i = m
      · subst e
        rw [List.drop_append_of_le_length (Nat.le_refl _), List.drop_length, List.nil_append, List.take_of_length_le (Nat.le_refl _)]
      · have ih := cats_part (b := b) m i (by omega)
        have hl : (cats b i).length + (chunk b i).length ≤ (cats b m).length := by
          have h2 : ∀ j, i + 1 ≤ j → (cats b (i + 1)).length ≤ (cats b j).length := fun j hj => by
            induction j with
            | zero => omega
            | succ j ihj =>
              by_cases e2 : i + 1 = j + 1
              · rw [e2]; exact Nat.le_refl _
              · rw [cats_succ b j, List.length_append]
                have := ihj (by omega)
                omega
          have := h2 m (by omega)
          rwa [cats_succ, List.length_append] at this
        rw [List.drop_append_of_le_length (by omega), List.take_append_of_le_length (by rw [List.length_drop]; omega)]
        exact ih
def rowF (gr n : Nat) (i j : Nat) : Value := if j < i then .slice (some ⟨gr, j * 256, none⟩) (8 + min 248 (n - j * 248)) (8 + min 248 (n - j * 248)) else .slice none 0 0
theorem rows_info : ∃ i : TypeInfo, Tryd.prog.info? 28 = some i ∧ i.zero = some (.slice none 0 0) ∧ i.size = 1 ∧ i.bytes = 24 := by
  have h : (Tryd.prog.info? 28).map (fun i => (i.zero, i.size, i.bytes)) = some (some (.slice none 0 0), 1, 24) := by kernel_rfl
  cases hq : Tryd.prog.info? 28 with
  | none => rw [hq] at h; cases h
  | some i => rw [hq] at h; simp at h; exact ⟨i, rfl, h.1, h.2.1, h.2.2⟩
theorem wl_makeR {ops : Array Oper} {rest : List Oper} {o : Oper} {a : Act} {Q : Exit → Act → World → Prop} (hg : o.guard = none) (l c : Operand) (hop : o.op = Op.makeSlice 39 l c) (x y : Int) (n : Nat) (hl : a.eval l = .int .i64 x) (hc : a.eval c = .int .i64 y) (hx : x = (n : Int)) (hy : y = (n : Int)) (hn : n ≤ 1000000)
    (h : ∀ w', Fb w' w.heap.size 28 n (fun _ => .slice none 0 0) → Below w.heap.size w w' → wpList Tryd.prog ops Q rest (a.put o.dst (.slice (some ⟨w.heap.size, 0, none⟩) n n)) w') : wpList Tryd.prog ops Q (o :: rest) a w := by
  obtain ⟨i0, hi, hz0, hz1, hz2⟩ := rows_info
  refine wpList_make_full w hg l c 39 hop w.heap.size 28 i0 (.slice none 0 0) 1 Tryd.underlying39 hi hz0 hz1 .i64 .i64 x y n hl hc hx hy (by rw [hz2]; omega) (by unfold maxLen; omega) (Nat.le_refl _) fun w1 hown hgrow => h w1 ?_ ((Below.refl _ w).grown hgrow (Nat.le_refl _) (fun k hk => by cases hk))
  rcases hown.2 with ⟨h3, _⟩ | ⟨g, cap, cur, hv, hg, hh, hr1, hr2, hr3, hr4⟩
  · cases h3
  · simp at hv
    obtain ⟨hg', rfl⟩ := hv
    subst hg'
    refine ⟨cur, hh, by omega, fun i hi => ?_⟩
    have e1 : cur[i]? = (cur.toList.take (n * 1))[i]? := by rw [List.getElem?_take]; simp [hi]
    rw [e1, hr4]
    simp [madeCells, hi, Value.cells, Nat.mod_one]
theorem wl_makeB {ops : Array Oper} {rest : List Oper} {o : Oper} {a : Act} {Q : Exit → Act → World → Prop} (hg : o.guard = none) (l c : Operand) (hop : o.op = Op.makeSlice 28 l c) (x y : Int) (n : Nat) (hl : a.eval l = .int .i64 x) (hc : a.eval c = .int .i64 y) (hx : x = (n : Int)) (hy : y = (n : Int)) (hn : n ≤ 1000000)
    (h : ∀ w', Bk w' w.heap.size (List.replicate n 0) → Below w.heap.size w w' → wpList Tryd.prog ops Q rest (a.put o.dst (.slice (some ⟨w.heap.size, 0, none⟩) n n)) w') : wpList Tryd.prog ops Q (o :: rest) a w := by
  obtain ⟨si, shi, shz0, shz1, shz2⟩ := byte_info
  refine wpList_make_full w hg l c 28 hop w.heap.size 5 si (.int .u8 0) 1 Tryd.underlying28 shi shz0 shz1 .i64 .i64 x y n hl hc hx hy (by rw [shz2]; omega) (by unfold maxLen; omega) (Nat.le_refl _) fun w1 hown hgrow => h w1 ?_ ((Below.refl _ w).grown hgrow (Nat.le_refl _) (fun k hk => by cases hk))
  rcases hown.2 with ⟨h3, _⟩ | ⟨g, cap, cur, hv, hg, hh, hr1, hr2, hr3, hr4⟩
  · cases h3
  · simp at hv
    obtain ⟨hg', rfl⟩ := hv
    subst hg'
    unfold Bk
    rw [hh, byts_rep]
    have e : cur.toList = List.replicate n (.int .u8 0) := by
      have := hr4
      rw [List.take_of_length_le (by simp [hr3])] at this
      rw [this]
      simp only [Nat.mul_one]
      exact toList_madeCells_one _ _
    have : cur = (List.replicate n (Value.int .u8 0)).toArray := Array.ext' (by rw [e])
    rw [this]
theorem step_copyM {ops : Array Oper} {o : Oper} {a : Act} {K : Act → World → Prop} {Q : Exit → Act → World → Prop} {E : Prop} (hgd : o.guard = none) (d s : Operand) (ho : o.op = .call { callee := .builtin .copy, args := #[d, s], argTypes := #[28, 28] })
    (dp sp : Option Addr) (dLen dCap sLen sCap : Nat) (hd : a.eval d = .slice dp dLen dCap) (hs : a.eval s = .slice sp sLen sCap) {g off : Nat} {L xs : List Int} (hb : Bk w g L) (hr : Rd w sp sLen sCap xs) (hdp : 0 < dLen → dp = some ⟨g, off, none⟩) (hfit : off + dLen ≤ L.length)
    (h : ∀ w' (m : Nat), Bk w' g (spl L off (xs.take dLen)) → Kept w w' (fun k => k = g) → K (a.put o.dst (.int .i64 (m : Int))) w') : if Region.wanted o (yielded ops a.tmps) = true then Oper.wp Tryd.prog o a w K Q else E := by
  have hw : Region.wanted o (yielded ops a.tmps) = true := by simp [Region.wanted, hgd]
  rw [if_pos hw]
  have hsz : (Tryd.prog.info? 5).map (·.size) = some 1 := by kernel_rfl
  have hl := hr.len
  by_cases h0 : Nat.min sLen dLen = 0
  · have hrun := run_copy_none (P := Tryd.prog) w 28 28 o.type 5 dp sp dLen dCap sLen sCap Tryd.underlying28 hsz h0
    unfold Oper.wp
    simp [execOp, ho, resolve, invoke, builtin, hd, hs, hrun, Result.andThen]
    have e : xs.take dLen = [] := List.eq_nil_of_length_eq_zero (by rw [List.length_take, hl, Nat.min_comm]; exact h0)
    exact h w 0 (by rw [e]; simpa [spl] using hb) (Kept.refl _ _)
  · have hd0 : 0 < dLen := by rcases Nat.eq_zero_or_pos dLen with e | e; (exact absurd (by rw [e]; exact Nat.min_zero _) h0); exact e
    have hs0 : 0 < sLen := by rcases Nat.eq_zero_or_pos sLen with e | e; (exact absurd (by rw [e]; exact Nat.zero_min _) h0); exact e
    obtain rfl := hdp hd0
    rcases hr.at_ with h1 | ⟨b', off', rfl, hc⟩
    · omega
    · have hcs : (byts (xs.take dLen)).length = Nat.min sLen dLen := by rw [byts_len, List.length_take, hl, Nat.min_comm]
      have hmd : Nat.min sLen dLen ≤ dLen := Nat.min_le_right _ _
      have hrun := run_copy_row (P := Tryd.prog) w 28 28 o.type 5 g off dLen dCap ⟨b', off', none⟩ sLen sCap (byts L).toArray 5 (byts (xs.take dLen)) Tryd.underlying28 hsz hb hcs (fun j v hv => hr.news _ rfl j v (by
        have : byts (xs.take dLen) = (byts xs).take dLen := by simp [byts, List.map_take]
        rw [this, List.getElem?_take] at hv
        split at hv
        · exact hv
        · cases hv)) (by rw [hcs]; simp [byts_len]; omega) (byts_one _)
      have e : ((byts L).toArray.toList.take off ++ byts (xs.take dLen) ++ (byts L).toArray.toList.drop (off + (byts (xs.take dLen)).length)) = byts (spl L off (xs.take dLen)) := by
        simp [byts, spl, List.map_take, List.map_drop]
      rw [e] at hrun
      unfold Oper.wp
      simp [execOp, ho, resolve, invoke, builtin, hd, hs, hrun, Result.andThen]
      exact h _ _ (setRow_heap w g _ _ _ _ hb) (kset_row _ _ _ rfl)
set_option maxHeartbeats 400000 in
theorem split_big {ao : Option Addr} {n c : Nat} (hn : 4000 < n) (hn2 : n ≤ 140737488355328) : Calls Tryd.prog 16 #[.slice ao n c] w fun e w' => e = .returned (.tuple #[.slice none 0 0, .int .i64 90]) ∧ w = w' := by
  go_enter Tryd.func16, Tryd.ntmps16
  go_wp2
  go_ret2
  exact ⟨rfl, rfl⟩
theorem Rd.from {ao A5 : Option Addr} {n c lo : Nat} {b : List Int} (h : Rd w ao n c b) (hA : (if c = lo then ao else Option.map (fun x => x.add lo) ao) = A5) (hlo : lo ≤ n) : Rd w A5 (n - lo) (c - lo) (b.drop lo) := by
  have hl := h.len
  have hc := h.cap
  refine ⟨by rw [List.length_drop, hl], by omega, fun he => ?_, ?_, h.by_.drop lo⟩
  · rw [he] at hA
    by_cases e : c = lo
    · omega
    · rw [if_neg e] at hA
      cases ao with
      | none => have := h.nil rfl; omega
      | some a => simp at hA
  · by_cases e0 : n - lo = 0
    · exact .inl e0
    · rcases h.at_ with h0 | ⟨bb, off, he, hcell⟩
      · omega
      · rw [if_neg (by omega), he] at hA
        refine .inr ⟨bb, off + lo, by rw [← hA]; show some (Addr.add ⟨bb, off, none⟩ lo) = _; rw [Addr.add_mid], fun j hj => ?_⟩
        rw [Nat.add_assoc, hcell (lo + j) (by omega)]
        congr 2
        simp [List.getD]
theorem cats_mono (b : List Int) {i j : Nat} (h : i ≤ j) : (cats b i).length ≤ (cats b j).length := by
  induction j with
  | zero => obtain rfl : i = 0 := by omega
            exact Nat.le_refl _
  | succ j ih =>
    by_cases e : i = j + 1
    · rw [e]; exact Nat.le_refl _
    · rw [cats_succ b j, List.length_append]
      have := ih (by omega)
      omega
structure Sp (w wr : World) (n q N gc gr kd ri : Nat) (L : List Int) (pv : Int) : Prop where
  row : Fb wr gc 28 N (rowF gr n ri)
  bk : Bk wr gr L
  hx : wr.heap[kd]? = some (.cells #[.int .i64 (n : Int), .int .i64 pv, .int .i64 (q : Int)] 59 (0, 0))
  bel : Below gc w wr
  o1 : gc < gr
  o2 : gr < kd
theorem Sp.still {wr wr' : World} {n q N gc gr kd ri : Nat} {L : List Int} {pv : Int} (h : Sp w wr n q N gc gr kd ri L pv) (hb : Below wr.heap.size wr wr') : Sp w wr' n q N gc gr kd ri L pv :=
  ⟨h.row.keep (Kept.ofBelow hb (fun _ => False)) id, h.bk.still hb, (hb.block _ (lt_heap h.hx)).trans h.hx, h.bel.trans (hb.mono (Nat.le_of_lt h.row.lt)), h.o1, h.o2⟩
theorem Sp.place {wr : World} {n q N gc gr kd ri : Nat} {L : List Int} {pv : Int} (h : Sp w wr n q N gc gr kd ri L pv) (x : Int) : Sp w (wr.setCell ⟨kd, 1, none⟩ (.int .i64 x)) n q N gc gr kd ri L x := by
  have hk := kset wr kd 1 (.int .i64 x) (P := fun j => j = kd) rfl
  have h1 := h.o1
  have h2 := h.o2
  exact ⟨h.row.keep hk (by omega), h.bk.keep hk (by omega), blk_set (cs' := #[.int .i64 (n : Int), .int .i64 x, .int .i64 (q : Int)]) h.hx rfl, h.bel.trans (hk.below (Nat.le_of_lt h.row.lt) (fun j hj => by omega)), h1, h2⟩
theorem Sp.bytes {wr wr' : World} {n q N gc gr kd ri : Nat} {L L' : List Int} {pv : Int} (h : Sp w wr n q N gc gr kd ri L pv) (hb : Bk wr' gr L') (k : Kept wr wr' (fun j => j = gr)) : Sp w wr' n q N gc gr kd ri L' pv := by
  have h1 := h.o1
  have h2 := h.o2
  exact ⟨h.row.keep k (by omega), hb, k.obj h.hx (by omega), h.bel.trans (k.below (Nat.le_of_lt h.row.lt) (fun j hj => by omega)), h1, h2⟩
theorem Sp.next {wr : World} {n q N gc gr kd ri : Nat} {L : List Int} {pv : Int} (h : Sp w wr n q N gc gr kd ri L pv) {e : Nat} (he : e = 8 + min 248 (n - ri * 248)) : Sp w (wr.setCell ⟨gc, ri, none⟩ (.slice (some ⟨gr, ri * 256, none⟩) e e)) n q N gc gr kd (ri + 1) L pv := by
  subst he
  have hk := kset wr gc ri (.slice (some ⟨gr, ri * 256, none⟩) (8 + min 248 (n - ri * 248)) (8 + min 248 (n - ri * 248))) (P := fun j => j = gc) rfl
  have h1 := h.o1
  have h2 := h.o2
  refine ⟨(h.row.set ri _).congr fun j hj => ?_, h.bk.keep hk (by omega), hk.obj h.hx (by omega), h.bel.trans (hk.below (Nat.le_of_lt h.row.lt) (fun j hj => by omega)), h1, h2⟩
  unfold rowF
  by_cases e : j = ri
  · subst e
    rw [if_pos rfl, if_pos (by omega)]
  · rw [if_neg e]
    by_cases e2 : j < ri
    · rw [if_pos e2, if_pos (by omega)]
    · rw [if_neg e2, if_neg (by omega)]
theorem Sp.x {wr : World} {n q N gc gr kd ri : Nat} {L : List Int} {pv : Int} (h : Sp w wr n q N gc gr kd ri L pv) : wr.cell? ⟨kd, 0, none⟩ = some (.int .i64 (n : Int)) ∧ wr.cell? ⟨kd, 1, none⟩ = some (.int .i64 pv) ∧ wr.cell? ⟨kd, 2, none⟩ = some (.int .i64 (q : Int)) := ⟨blk_cell h.hx 0, blk_cell h.hx 1, blk_cell h.hx 2⟩
theorem Sp.c {wr : World} {n q N gc gr kd ri : Nat} {L : List Int} {pv : Int} (h : Sp w wr n q N gc gr kd (ri + 1) L pv) (hi : ri < N) {e : Nat} (he : e = 8 + min 248 (n - ri * 248)) : wr.cell? ⟨gc, ri, none⟩ = some (.slice (some ⟨gr, ri * 256, none⟩) e e) := by
  rw [h.row.cell _ hi]
  unfold rowF
  rw [if_pos (by omega), he]
set_option maxHeartbeats 2000000 in
theorem split_ok {ao : Option Addr} {n c : Nat} {b : List Int} (hr : Rd w ao n c b) (hn : n ≤ 4000) (hT : Tab w) : Calls Tryd.prog 16 #[.slice ao n c] w fun e w' => ∃ gc gr, e = .returned (.tuple #[.slice (some ⟨gc, 0, none⟩) (cnt n) (cnt n), .int .i64 0]) ∧ w.heap.size ≤ gc ∧ w.heap.size ≤ gr ∧ Fb w' gc 28 (cnt n) (rowF gr n (cnt n)) ∧ Bk w' gr (cats b (cnt n)) ∧ Below w.heap.size w w' := by
  have hl := hr.len
  have HC : Hid (Calls Tryd.prog 17 #[.int .i64 (n : Int)] w fun e w' => e = .returned (.int .i64 ((cnt n : Nat) : Int)) ∧ w = w') := (show Calls _ _ _ _ _ from by have := fcount_any (w := w) (n : Int); rw [cntI_nat] at this; exact this)
  have hc1 := cnt_pos hn
  have hc2 := cnt_le n
  have Hall : Hid ((cats b (cnt n)).length = cnt n * 8 + n) := (show _ = _ from by have := cats_all (b := b) (by omega); rw [hl] at this; exact this)
  have Hcl : Hid (∀ i, i < cnt n → (cats b i).length = i * 256) := fun i hi => cats_len (b := b) (by omega) i (by rw [hl]; exact hi)
  have Hcn : Hid (∀ i, i < cnt n → i * 248 ≤ n) := fun i hi => by unfold cnt at hi; rw [if_pos hn] at hi; omega
  have Hr : Hid (Rd w ao n c b) := hr
  have HT : Hid (Tab w) := hT
  have hcr := crc_lt hr.by_
  clear hr hT
  generalize hN : cnt n = N at *
  go_enter Tryd.func16, Tryd.ntmps16
  go_wp2_with (first
    | (go_at_call 17; refine HC.out.mono ?_; rintro e w2 ⟨rfl, rfl⟩)
    | (at_make; refine wl_makeR rfl _ _ rfl _ _ N rfl rfl rfl rfl (by omega) ?_)
    | fail)
  intro w1 hF1 hB1
  have HF1 : Hid (Fb w1 w.heap.size 28 N (fun _ => .slice none 0 0)) := hF1
  have Hb1 : Hid (Below w.heap.size w w1) := hB1
  have hs1 : w.heap.size < w1.heap.size := hF1.lt
  clear hF1 hB1
  generalize hgc : w.heap.size = gc at *
  go_wp2_with (first
    | (at_make; refine wl_makeB rfl _ _ rfl _ _ (N * 8 + n) rfl rfl (by omega) (by omega) (by omega) ?_)
    | fail)
  intro w2 hB2 hb2
  have HF2 : Hid (Fb w2 gc 28 N (fun _ => .slice none 0 0)) := HF1.out.keep (Kept.ofBelow hb2 (fun _ => False)) id
  have HB2 : Hid (Bk w2 w1.heap.size (List.replicate (N * 8 + n) 0)) := hB2
  have Hb2 : Hid (Below gc w w2) := Hb1.out.trans (hb2.mono (by omega))
  have hs2 : w1.heap.size < w2.heap.size := hB2.lt
  have HSum : Hid (Calls Tryd.prog 13 #[.slice ao n c] w2 fun e w' => e = .returned (.int .i64 ((crc b : Nat) : Int)) ∧ w2 = w') := sum_any (Hr.out.still (by rw [hgc]; exact Hb2.out)) (by omega) (HT.out.still (by rw [hgc]; exact Hb2.out))
  clear hB2 hb2 HF1 Hb1
  generalize hgr : w1.heap.size = gr at *
  generalize hR : N * 8 + n = R at *
  generalize hcrc : crc b = q at *
  go_wp2_with (first
    | (go_at_call 13; refine HSum.out.mono ?_; rintro e w3 ⟨rfl, rfl⟩)
    | fail)
  generalize hV0 : w2.alloc (.cells #[.int .i64 (n : Int), .int .i64 0, .int .i64 (q : Int)] 59) = V0
  have hbv : Below w2.heap.size w2 V0 := by rw [← hV0]; exact balloc (Below.refl _ _)
  have HS0 : Hid (Sp w V0 n q N gc gr w2.heap.size 0 (cats b 0 ++ List.replicate (R - (cats b 0).length) 0) 0) := ⟨by rw [show rowF gr n 0 = fun _ => Value.slice none 0 0 from by funext j; simp [rowF]]; exact HF2.out.keep (Kept.ofBelow hbv (fun _ => False)) id, by show Bk V0 gr ([] ++ List.replicate (R - 0) 0); exact HB2.out.still hbv, by rw [← hV0]; exact heap_alloc_new _ _, Hb2.out.trans (hbv.mono (by omega)), hs1, hs2⟩
  clear hbv HF2 HB2 Hb2 HSum HC hV0 HT
  generalize hkd : w2.heap.size = kd at *
  have hRN : R ≤ N * 256 := by
    have h1 := Hall.out
    obtain ⟨j, rfl⟩ : ∃ j, N = j + 1 := ⟨N - 1, by omega⟩
    rw [cats_succ, List.length_append, Hcl.out j (by omega), chunk_len] at h1
    omega
  go_loopw [5, 30] (fun rm v wr => ∃ (i : Nat) (ra : Option Addr) (pv : Int), i ≤ N ∧ v = .int .i64 (i : Int) ∧ rm = .slice ra (R - i * 256) (R - i * 256) ∧ (i < N → ra = some ⟨gr, i * 256, none⟩) ∧ Hid (Sp w wr n q N gc gr kd i (cats b i ++ List.replicate (R - (cats b i).length) 0) pv)) (fun _ v _ => N - (intOf v).toNat)
  case atStart => exact ⟨0, some ⟨gr, 0, none⟩, 0, Nat.zero_le _, rfl, by simp, fun _ => by simp, HS0⟩
  case round =>
    obtain ⟨i, ra, pv, hi, rfl, rfl, hra, hsp⟩ := hrel
    by_cases hlt : i < N
    · obtain rfl := hra hlt
      have hi248 := Hcn.out i hlt
      obtain ⟨m, hm⟩ : ∃ m, m = min 248 (n - i * 248) := ⟨_, rfl⟩
      have hml : m ≤ 248 := by omega
      have hcl := Hcl.out i hlt
      have hfit : i * 256 + (8 + m) ≤ R := by
        have h1 := Hall.out
        by_cases e : i + 1 < N
        · have h2 := Hcl.out (i + 1) e
          rw [cats_succ, List.length_append, hcl, chunk_len, hl, ← hm] at h2
          have h3 : (cats b (i + 1)).length ≤ (cats b N).length := cats_mono b (by omega)
          rw [h1, cats_succ, List.length_append, hcl, chunk_len, hl, ← hm] at h3
          omega
        · obtain rfl : N = i + 1 := by omega
          rw [cats_succ, List.length_append, hcl, chunk_len, hl, ← hm] at h1
          omega
      have Hnext : Hid (R - i * 256 - (8 + m) = R - (i + 1) * 256) := (show _ = _ from by
        by_cases e : i + 1 < N
        · have h2 := Hcn.out (i + 1) e
          omega
        · have h1 := Hall.out
          obtain rfl : N = i + 1 := by omega
          rw [cats_succ, List.length_append, hcl, chunk_len, hl, ← hm] at h1
          omega)
      obtain ⟨L0, hL0⟩ : ∃ L0, cats b i ++ List.replicate (R - (cats b i).length) 0 = L0 := ⟨_, rfl⟩
      rw [hL0] at hsp
      have hL0l : L0.length = R := by rw [← hL0, List.length_append, List.length_replicate]; omega
      have HL0 : Hid (cats b i ++ List.replicate (R - (cats b i).length) 0 = L0) := hL0
      obtain ⟨x0, x1, x2⟩ := hsp.out.x
      have f1 : wr.frozen? ⟨kd, 1, none⟩ = false := frozen_of_row wr _ _ _ _ hsp.out.hx
      obtain ⟨W3, hW3⟩ : ∃ W3, wr.setCell ⟨kd, 1, none⟩ (.int .i64 ((i : Int) * 248)) = W3 := ⟨_, rfl⟩
      have HS3 : Hid (Sp w W3 n q N gc gr kd i L0 ((i : Int) * 248)) := (show Sp w W3 n q N gc gr kd i L0 ((i : Int) * 248) from by rw [← hW3]; exact hsp.out.place _)
      obtain ⟨y0, y1, y2⟩ := HS3.out.x
      have HP : Hid (∀ W', Calls Tryd.prog 28 #[.agg #[.int .i64 (n : Int), .int .i64 ((i : Int) * 248), .int .i64 (q : Int)]] W' fun e w2 => e = .returned (.int .i64 (m : Int)) ∧ Below W'.heap.size W' w2) := fun W' => (piece_any (n : Int) ((i : Int) * 248) (q : Int) (by omega) (by omega)).mono fun e w2 hh => ⟨by rw [hh.1]; exact ret_int (by omega), hh.2⟩
      clear hsp hL0
      have Hm : Hid (8 + m = 8 + min 248 (n - i * 248)) := (show 8 + m = 8 + min 248 (n - i * 248) from by rw [hm])
      clear hm
      go_wp2_with (first
        | (go_at_call 28; refine (HP.out _).mono ?_; rintro e W4 ⟨rfl, hb4⟩)
        | fail)
      have HS4 : Hid (Sp w W4 n q N gc gr kd i L0 ((i : Int) * 248)) := HS3.out.still hb4
      clear hb4 HS3 x0 x1 x2 f1 y0 y1 y2 hW3
      have hN1 : (i : Int) < (N : Int) := by omega
      have hN0 : (0 : Int) ≤ (i : Int) := by omega
      have hRi : ((8 : Int) + (m : Int)) ≤ ((R - i * 256 : Nat) : Int) := by omega
      have e80 : (0 : Int) ≤ 8 + (m : Int) := by omega
      have e8t : ((8 : Int) + (m : Int)).toNat = 8 + m := by omega
      have e8m : max ((8 : Int) + (m : Int)) 0 = 8 + (m : Int) := by omega
      have hRi2 : 8 + m ≤ R - i * 256 := by omega
      obtain ⟨A3, hA3⟩ : ∃ A3, (if R - i * 256 = 8 + m then some (⟨gr, i * 256, none⟩ : Addr) else some ⟨gr, i * 256 + (8 + m), none⟩) = A3 := ⟨_, rfl⟩
      refine wp_region_held_drew (S := (fun w' => True)) (by kernel_rfl) trivial (fun hHeld => ?_)
      simp only [Act.put, List.size_toArray, List.length_cons, List.length_nil, Nat.zero_add]
      refine wpAnyH_take (i := 0) (v := .slice (some ⟨gc, 0, none⟩) N N) rfl (by kernel_rfl) (by kernel_rfl) (by kernel_rfl) (fun _ _ _ h => h) (Or.inl ⟨by rfl, fun w' hS => by go_simp⟩) hHeld ?_
      simp only [Act.put, List.getElem_toArray, List.getElem_cons_zero, List.getElem_cons_succ, List.setIfInBounds_toArray, List.set_cons_zero, List.set_cons_succ]
      refine wpAnyH_take (i := 1) (v := .int .i64 (i : Int)) rfl (by kernel_rfl) (by kernel_rfl) (by kernel_rfl) (fun _ _ _ h => h) (Or.inl ⟨by rfl, fun w' hS => by go_simp⟩) hHeld ?_
      simp only [Act.put, List.getElem_toArray, List.getElem_cons_zero, List.getElem_cons_succ, List.setIfInBounds_toArray, List.set_cons_zero, List.set_cons_succ]
      refine wpAnyH_take (i := 2) (v := .slice (some ⟨gr, i * 256, none⟩) (R - i * 256) (R - i * 256)) rfl (by kernel_rfl) (by kernel_rfl) (by kernel_rfl) (fun _ _ _ h => h) (Or.inl ⟨by rfl, fun w' hS => by go_simp⟩) hHeld ?_
      simp only [Act.put, List.getElem_toArray, List.getElem_cons_zero, List.getElem_cons_succ, List.setIfInBounds_toArray, List.set_cons_zero, List.set_cons_succ]
      refine wpAnyH_take (i := 3) (v := .int .i64 (8 + (m : Int))) rfl (by kernel_rfl) (by kernel_rfl) (by kernel_rfl) (fun _ _ _ h => h) (Or.inl ⟨by rfl, fun w' hS => by go_simp⟩) hHeld ?_
      simp only [Act.put, List.getElem_toArray, List.getElem_cons_zero, List.getElem_cons_succ, List.setIfInBounds_toArray, List.set_cons_zero, List.set_cons_succ]
      refine wpAnyH_take (i := 4) (v := .int .i64 (8 + (m : Int))) rfl (by kernel_rfl) (by kernel_rfl) (by kernel_rfl) (fun _ _ _ h => h) (Or.inl ⟨by rfl, fun w' hS => by go_simp⟩) hHeld ?_
      simp only [Act.put, List.getElem_toArray, List.getElem_cons_zero, List.getElem_cons_succ, List.setIfInBounds_toArray, List.set_cons_zero, List.set_cons_succ]
      refine wpAnyH_take (i := 5) (v := .slice (some ⟨gr, i * 256, none⟩) (8 + m) (8 + m)) rfl (by kernel_rfl) (by kernel_rfl) (by kernel_rfl) (fun _ _ _ h => h) (Or.inl ⟨by rfl, fun w' hS => by go_simp⟩) hHeld ?_
      simp only [Act.put, List.getElem_toArray, List.getElem_cons_zero, List.getElem_cons_succ, List.setIfInBounds_toArray, List.set_cons_zero, List.set_cons_succ]
      refine wpAnyH_take (i := 6) (v := .slice (some ⟨gr, i * 256, none⟩) (R - i * 256) (R - i * 256)) rfl (by kernel_rfl) (by kernel_rfl) (by kernel_rfl) (fun _ _ _ h => h) (Or.inl ⟨by rfl, fun w' hS => by go_simp⟩) hHeld ?_
      simp only [Act.put, List.getElem_toArray, List.getElem_cons_zero, List.getElem_cons_succ, List.setIfInBounds_toArray, List.set_cons_zero, List.set_cons_succ]
      refine wpAnyH_take (i := 7) (v := .int .i64 (8 + (m : Int))) rfl (by kernel_rfl) (by kernel_rfl) (by kernel_rfl) (fun _ _ _ h => h) (Or.inl ⟨by rfl, fun w' hS => by go_simp⟩) hHeld ?_
      simp only [Act.put, List.getElem_toArray, List.getElem_cons_zero, List.getElem_cons_succ, List.setIfInBounds_toArray, List.set_cons_zero, List.set_cons_succ]
      refine wpAnyH_take (i := 8) (v := .slice A3 (R - i * 256 - (8 + m)) (R - i * 256 - (8 + m))) rfl (by kernel_rfl) (by kernel_rfl) (by kernel_rfl) (fun _ _ _ h => h) (Or.inl ⟨by rfl, fun w' hS => by go_simp⟩) hHeld ?_
      simp only [Act.put, List.getElem_toArray, List.getElem_cons_zero, List.getElem_cons_succ, List.setIfInBounds_toArray, List.set_cons_zero, List.set_cons_succ]
      refine wpAnyH_take (i := 9) (v := .pointer (some ⟨gc, i, none⟩)) rfl (by kernel_rfl) (by kernel_rfl) (by kernel_rfl) (fun _ _ _ h => h) (Or.inl ⟨by rfl, fun w' hS => by go_simp⟩) hHeld ?_
      simp only [Act.put, List.getElem_toArray, List.getElem_cons_zero, List.getElem_cons_succ, List.setIfInBounds_toArray, List.set_cons_zero, List.set_cons_succ]
      have hd : Below W4.heap.size W4 W4.drew := (Below.refl _ _).drew
      have HS5 : Hid (Sp w W4.drew n q N gc gr kd i L0 ((i : Int) * 248)) := HS4.out.still hd
      clear hd HS4
      generalize W4.drew = D5 at *
      have c5 := HS5.out.row.cell i hlt
      have f5 := HS5.out.row.fz i
      obtain ⟨W5, hW5⟩ : ∃ W5, D5.setCell ⟨gc, i, none⟩ (.slice (some ⟨gr, i * 256, none⟩) (8 + m) (8 + m)) = W5 := ⟨_, rfl⟩
      have HS6 : Hid (Sp w W5 n q N gc gr kd (i + 1) L0 ((i : Int) * 248)) := (show Sp w W5 n q N gc gr kd (i + 1) L0 ((i : Int) * 248) from by rw [← hW5]; exact HS5.out.next Hm.out)
      generalize rowF gr n i i = cv at c5
      refine wpAnyH_ready (rs := [10]) (by kernel_rfl) (by simp) ?_
      refine AllReadyH.cons rfl (fun K hK => ?_) AllReadyH.nil
      go_simp
      refine hK.out _ _ trivial (fun hHeld => ?_)
      clear hK K
      refine wpAnyH_take (i := 11) (v := .slice A3 (R - i * 256 - (8 + m)) (R - i * 256 - (8 + m))) rfl (by kernel_rfl) (by kernel_rfl) (by kernel_rfl) (fun _ _ _ h => h) (Or.inl ⟨by rfl, fun w' hS => by go_simp⟩) hHeld ?_
      simp only [Act.put, List.getElem_toArray, List.getElem_cons_zero, List.getElem_cons_succ, List.setIfInBounds_toArray, List.set_cons_zero, List.set_cons_succ]
      refine wpAnyH_done (by kernel_rfl) ?_ _
      clear hHeld c5 f5 HS5 hW5
      obtain ⟨x0, x1, x2⟩ := HS6.out.x
      have x3 := HS6.out.c hlt Hm.out
      go_wp2_with fail
      refine wp_region_held_drew (S := (fun w' => w'.cell? ⟨kd, 0, none⟩ = some (.int .i64 (n : Int)) ∧ w'.cell? ⟨kd, 1, none⟩ = some (.int .i64 ((i : Int) * 248)) ∧ w'.cell? ⟨kd, 2, none⟩ = some (.int .i64 (q : Int)) ∧ w'.cell? ⟨gc, i, none⟩ = some (.slice (some ⟨gr, i * 256, none⟩) (8 + m) (8 + m)))) (by kernel_rfl) ⟨below_at (Below.refl _ _).drew x0, below_at (Below.refl _ _).drew x1, below_at (Below.refl _ _).drew x2, below_at (Below.refl _ _).drew x3⟩ (fun hHeld => ?_)
      simp only [Act.put, List.size_toArray, List.length_cons, List.length_nil, Nat.zero_add]
      refine wpAnyH_take (i := 0) (v := .agg #[.int .i64 (n : Int), .int .i64 ((i : Int) * 248), .int .i64 (q : Int)]) rfl (by kernel_rfl) (by kernel_rfl) (by kernel_rfl) (fun _ _ _ h => h) (Or.inl ⟨by rfl, fun w' hS => by (obtain ⟨s0, s1, s2, s3⟩ := hS; go_simp)⟩) hHeld ?_
      simp only [Act.put, List.getElem_toArray, List.getElem_cons_zero, List.getElem_cons_succ, List.setIfInBounds_toArray, List.set_cons_zero, List.set_cons_succ]
      refine wpAnyH_take (i := 1) (v := .slice (some ⟨gc, 0, none⟩) N N) rfl (by kernel_rfl) (by kernel_rfl) (by kernel_rfl) (fun _ _ _ h => h) (Or.inl ⟨by rfl, fun w' hS => by go_simp⟩) hHeld ?_
      simp only [Act.put, List.getElem_toArray, List.getElem_cons_zero, List.getElem_cons_succ, List.setIfInBounds_toArray, List.set_cons_zero, List.set_cons_succ]
      refine wpAnyH_take (i := 2) (v := .int .i64 (i : Int)) rfl (by kernel_rfl) (by kernel_rfl) (by kernel_rfl) (fun _ _ _ h => h) (Or.inl ⟨by rfl, fun w' hS => by go_simp⟩) hHeld ?_
      simp only [Act.put, List.getElem_toArray, List.getElem_cons_zero, List.getElem_cons_succ, List.setIfInBounds_toArray, List.set_cons_zero, List.set_cons_succ]
      refine wpAnyH_take (i := 3) (v := .pointer (some ⟨gc, i, none⟩)) rfl (by kernel_rfl) (by kernel_rfl) (by kernel_rfl) (fun _ _ _ h => h) (Or.inl ⟨by rfl, fun w' hS => by go_simp⟩) hHeld ?_
      simp only [Act.put, List.getElem_toArray, List.getElem_cons_zero, List.getElem_cons_succ, List.setIfInBounds_toArray, List.set_cons_zero, List.set_cons_succ]
      refine wpAnyH_take (i := 4) (v := .slice (some ⟨gr, i * 256, none⟩) (8 + m) (8 + m)) rfl (by kernel_rfl) (by kernel_rfl) (by kernel_rfl) (fun _ _ _ h => h) (Or.inl ⟨by rfl, fun w' hS => by (obtain ⟨s0, s1, s2, s3⟩ := hS; go_simp)⟩) hHeld ?_
      simp only [Act.put, List.getElem_toArray, List.getElem_cons_zero, List.getElem_cons_succ, List.setIfInBounds_toArray, List.set_cons_zero, List.set_cons_succ]
      have hd : Below W5.heap.size W5 W5.drew := (Below.refl _ _).drew
      have HS7 : Hid (Sp w W5.drew n q N gc gr kd (i + 1) L0 ((i : Int) * 248)) := HS6.out.still hd
      clear hd HS6 x0 x1 x2 x3
      generalize W5.drew = D6 at *
      have HPut : Hid (Calls Tryd.prog 29 #[.agg #[.int .i64 (n : Int), .int .i64 ((i : Int) * 248), .int .i64 (q : Int)], .slice (some ⟨gr, i * 256, none⟩) (8 + m) (8 + m)] D6 fun e w' => e = .returned (.tuple #[]) ∧ Bk w' gr (spl L0 (i * 256) (hdB n (i * 248) q)) ∧ Kept D6 w' (fun j => j = gr)) := (show Calls _ _ _ _ _ from by
        have h := put_any (s := n) (p := i * 248) (q := q) (o := i * 256) (l := 8 + m) HS7.out.bk (by omega) (by omega) (by omega) (by omega) (by omega) hcr
        rw [show ((i * 248 : Nat) : Int) = (i : Int) * 248 from by push_cast; rfl] at h
        exact h)
      refine wpAnyH_ready (rs := [5]) (by kernel_rfl) (by simp) ?_
      refine AllReadyH.cons rfl (fun K hK => ?_) AllReadyH.nil
      go_simp
      refine HPut.out.mono ?_
      rintro e W6 ⟨rfl, hb6, hk6⟩
      have HS8 : Hid (Sp w W6 n q N gc gr kd (i + 1) (spl L0 (i * 256) (hdB n (i * 248) q)) ((i : Int) * 248)) := HS7.out.bytes hb6 hk6
      obtain ⟨x0, x1, x2⟩ := HS8.out.x
      have x3 := HS8.out.c hlt Hm.out
      refine hK.out _ _ ⟨x0, x1, x2, x3⟩ (fun hHeld => ?_)
      clear hK K
      refine wpAnyH_done (by kernel_rfl) ?_ _
      clear hHeld hb6 hk6 HS7 HPut x0 x2
      obtain ⟨A4, hA4⟩ : ∃ A4, (if m = 0 then some (⟨gr, i * 256, none⟩ : Addr) else some ⟨gr, i * 256 + 8, none⟩) = A4 := ⟨_, rfl⟩
      obtain ⟨A5, hA5⟩ : ∃ A5, (if c = i * 248 then ao else Option.map (fun x => x.add (i * 248)) ao) = A5 := ⟨_, rfl⟩
      have q8 : (8 : Int) ≤ 8 + (m : Int) := by omega
      have q11 : ((i : Int) * 248).toNat = i * 248 := by omega
      have q9 : (i : Int) * 248 ≤ (n : Int) := by omega
      have q10 : (0 : Int) ≤ (i : Int) * 248 := by omega
      go_wp2_with fail
      refine wp_region_held_drew (S := (fun w' => w'.cell? ⟨kd, 1, none⟩ = some (.int .i64 ((i : Int) * 248)) ∧ w'.cell? ⟨gc, i, none⟩ = some (.slice (some ⟨gr, i * 256, none⟩) (8 + m) (8 + m)))) (by kernel_rfl) ⟨below_at (Below.refl _ _).drew x1, below_at (Below.refl _ _).drew x3⟩ (fun hHeld => ?_)
      simp only [Act.put, List.size_toArray, List.length_cons, List.length_nil, Nat.zero_add]
      refine wpAnyH_take (i := 0) (v := .slice (some ⟨gc, 0, none⟩) N N) rfl (by kernel_rfl) (by kernel_rfl) (by kernel_rfl) (fun _ _ _ h => h) (Or.inl ⟨by rfl, fun w' hS => by go_simp⟩) hHeld ?_
      simp only [Act.put, List.getElem_toArray, List.getElem_cons_zero, List.getElem_cons_succ, List.setIfInBounds_toArray, List.set_cons_zero, List.set_cons_succ]
      refine wpAnyH_take (i := 1) (v := .int .i64 (i : Int)) rfl (by kernel_rfl) (by kernel_rfl) (by kernel_rfl) (fun _ _ _ h => h) (Or.inl ⟨by rfl, fun w' hS => by go_simp⟩) hHeld ?_
      simp only [Act.put, List.getElem_toArray, List.getElem_cons_zero, List.getElem_cons_succ, List.setIfInBounds_toArray, List.set_cons_zero, List.set_cons_succ]
      refine wpAnyH_take (i := 2) (v := .pointer (some ⟨gc, i, none⟩)) rfl (by kernel_rfl) (by kernel_rfl) (by kernel_rfl) (fun _ _ _ h => h) (Or.inl ⟨by rfl, fun w' hS => by go_simp⟩) hHeld ?_
      simp only [Act.put, List.getElem_toArray, List.getElem_cons_zero, List.getElem_cons_succ, List.setIfInBounds_toArray, List.set_cons_zero, List.set_cons_succ]
      refine wpAnyH_take (i := 3) (v := .slice (some ⟨gr, i * 256, none⟩) (8 + m) (8 + m)) rfl (by kernel_rfl) (by kernel_rfl) (by kernel_rfl) (fun _ _ _ h => h) (Or.inl ⟨by rfl, fun w' hS => by (obtain ⟨s0, s1⟩ := hS; go_simp)⟩) hHeld ?_
      simp only [Act.put, List.getElem_toArray, List.getElem_cons_zero, List.getElem_cons_succ, List.setIfInBounds_toArray, List.set_cons_zero, List.set_cons_succ]
      refine wpAnyH_take (i := 4) (v := .slice A4 m m) rfl (by kernel_rfl) (by kernel_rfl) (by kernel_rfl) (fun _ _ _ h => h) (Or.inl ⟨by rfl, fun w' hS => by go_simp⟩) hHeld ?_
      simp only [Act.put, List.getElem_toArray, List.getElem_cons_zero, List.getElem_cons_succ, List.setIfInBounds_toArray, List.set_cons_zero, List.set_cons_succ]
      refine wpAnyH_take (i := 5) (v := .slice ao n c) rfl (by kernel_rfl) (by kernel_rfl) (by kernel_rfl) (fun _ _ _ h => h) (Or.inl ⟨by rfl, fun w' hS => by go_simp⟩) hHeld ?_
      simp only [Act.put, List.getElem_toArray, List.getElem_cons_zero, List.getElem_cons_succ, List.setIfInBounds_toArray, List.set_cons_zero, List.set_cons_succ]
      refine wpAnyH_take (i := 6) (v := .pointer (some ⟨kd, 1, none⟩)) rfl (by kernel_rfl) (by kernel_rfl) (by kernel_rfl) (fun _ _ _ h => h) (Or.inl ⟨by rfl, fun w' hS => by go_simp⟩) hHeld ?_
      simp only [Act.put, List.getElem_toArray, List.getElem_cons_zero, List.getElem_cons_succ, List.setIfInBounds_toArray, List.set_cons_zero, List.set_cons_succ]
      refine wpAnyH_take (i := 7) (v := .int .i64 ((i : Int) * 248)) rfl (by kernel_rfl) (by kernel_rfl) (by kernel_rfl) (fun _ _ _ h => h) (Or.inl ⟨by rfl, fun w' hS => by (obtain ⟨s0, s1⟩ := hS; go_simp)⟩) hHeld ?_
      simp only [Act.put, List.getElem_toArray, List.getElem_cons_zero, List.getElem_cons_succ, List.setIfInBounds_toArray, List.set_cons_zero, List.set_cons_succ]
      refine wpAnyH_take (i := 8) (v := .slice A5 (n - i * 248) (c - i * 248)) rfl (by kernel_rfl) (by kernel_rfl) (by kernel_rfl) (fun _ _ _ h => h) (Or.inl ⟨by rfl, fun w' hS => by go_simp⟩) hHeld ?_
      simp only [Act.put, List.getElem_toArray, List.getElem_cons_zero, List.getElem_cons_succ, List.setIfInBounds_toArray, List.set_cons_zero, List.set_cons_succ]
      have hd : Below W6.heap.size W6 W6.drew := (Below.refl _ _).drew
      have HSa : Hid (Sp w W6.drew n q N gc gr kd (i + 1) (spl L0 (i * 256) (hdB n (i * 248) q)) ((i : Int) * 248)) := HS8.out.still hd
      clear hd HS8 x1 x3
      generalize W6.drew = D7 at *
      have hl8 : (spl L0 (i * 256) (hdB n (i * 248) q)).length = R := by rw [spl_len _ _ _ (by rw [hdB_len]; omega), hL0l]
      refine wpAnyH_ready (rs := [9]) (by kernel_rfl) (by simp) ?_
      refine AllReadyH.cons rfl (fun K hK => ?_) AllReadyH.nil
      refine step_copyM rfl (.tmp 59) (.tmp 63) rfl A4 A5 m m (n - i * 248) (c - i * 248) rfl rfl HSa.out.bk (Rd.from (Hr.out.still (by rw [hgc]; exact HSa.out.bel)) hA5 hi248) (off := i * 256 + 8) (fun h0 => by rw [← hA4, if_neg (by omega)]) (by rw [hl8]; omega) (fun D8 mm hb8 hk8 => ?_)
      have HS9 : Hid (Sp w D8 n q N gc gr kd (i + 1) (spl (spl L0 (i * 256) (hdB n (i * 248) q)) (i * 256 + 8) ((b.drop (i * 248)).take m)) ((i : Int) * 248)) := HSa.out.bytes hb8 hk8
      obtain ⟨x0, x1, x2⟩ := HS9.out.x
      have x3 := HS9.out.c hlt Hm.out
      refine hK.out _ _ ⟨x1, x3⟩ (fun hHeld => ?_)
      clear hK K
      refine wpAnyH_done (by kernel_rfl) ?_ _
      clear hHeld hb8 hk8 HSa x0 x1 x2 x3
      have HL9 : Hid (spl (spl L0 (i * 256) (hdB n (i * 248) q)) (i * 256 + 8) ((b.drop (i * 248)).take m) = cats b (i + 1) ++ List.replicate (R - (cats b (i + 1)).length) 0) := (show _ = _ from by
        have e1 := spl_app L0 (i * 256) (hdB n (i * 248) q) ((b.drop (i * 248)).take m) (by rw [hdB_len, hL0l, List.length_take, List.length_drop]; omega)
        rw [hdB_len] at e1
        have e2 : hdB n (i * 248) q ++ (b.drop (i * 248)).take m = chunk b i := by
          rw [chunk_hd, hl, hcrc]
          congr 1
          by_cases h2 : m = 248
          · rw [h2]
          · have h3 := Hm.out
            rw [List.take_of_length_le (by rw [List.length_drop]; omega), List.take_of_length_le (by rw [List.length_drop]; omega)]
        rw [e1, e2, ← HL0.out]
        have h3 := Hm.out
        have e3 := spl_fill (cats b i) (chunk b i) (R - (cats b i).length) (by rw [chunk_len, hcl, hl]; omega)
        rw [hcl] at e3
        rw [hcl, e3, cats_succ, List.length_append, hcl]
        congr 2
        omega)
      go_wp2
      refine ⟨⟨i + 1, A3, (i : Int) * 248, by omega, by go_num, by rw [Hnext.out], fun h1 => ?_, ?_⟩, by simp [intOf]; omega⟩
      · rw [← hA3, if_neg (by have := Hcn.out (i + 1) h1; have := Hall.out; have := Hcl.out (i + 1) h1; have h5 : (cats b (i + 1 + 1)).length ≤ (cats b N).length := cats_mono b (by omega); rw [cats_succ b (i + 1), List.length_append, chunk_len] at h5; omega)]
        have hm2 := Hm.out
        have := Hcn.out (i + 1) h1
        rw [show i * 256 + (8 + m) = (i + 1) * 256 by omega]
      · have h9 := HS9.out
        rw [HL9.out] at h9
        exact h9
    · obtain rfl : i = N := by omega
      have HF : Hid (Sp w wr n q i gc gr kd i (cats b i ++ List.replicate (R - (cats b i).length) 0) pv) := hsp
      go_wp2
      go_ret2
      refine ⟨gc, gr, rfl, by omega, by omega, HF.out.row, ?_, by rw [hgc]; exact HF.out.bel⟩
      have := HF.out.bk
      rw [Hall.out, Nat.sub_self] at this
      simpa using this
end
end Go.Proofs.YtmphabgpabbbjaaDoor.Fg
