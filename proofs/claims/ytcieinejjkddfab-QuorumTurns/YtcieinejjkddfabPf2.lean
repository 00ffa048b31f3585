import Derived.Test.YtcieinejjkddfabPe2
namespace Go.Proofs.Ytcieinejjkddfab.Qm
open Go.RowKit Mb
set_option linter.unusedVariables false
set_option maxRecDepth 100000
set_option linter.unusedSimpArgs false
section
variable {w w' : World} {B : Nat}
def fl3 (ts : List St) : List Int := ts.flatMap St.li
theorem fl3_len : ∀ ts : List St, (fl3 ts).length = ts.length * 3
  | [] => rfl
  | x :: r => by
      have := fl3_len r
      simp only [fl3, List.flatMap_cons, List.length_append, List.length_cons, St.li_len] at this ⊢
      rw [this]
      omega
theorem fl3_at : ∀ (ts : List St) (i j : Nat), i < ts.length → j < 3 → (fl3 ts)[i * 3 + j]? = (ts.getD i z3).li[j]?
  | [], i, j, h, _ => by simp at h
  | x :: r, 0, j, h, hj => by
      simp only [fl3, List.flatMap_cons, Nat.zero_mul, Nat.zero_add]
      rw [List.getElem?_append_left (by rw [St.li_len]; exact hj)]
      simp [List.getD]
  | x :: r, i + 1, j, h, hj => by
      have ih := fl3_at r i j (by simpa using h) hj
      simp only [fl3, List.flatMap_cons] at ih ⊢
      rw [List.getElem?_append_right (by rw [St.li_len]; omega), St.li_len, show (i + 1) * 3 + j - 3 = i * 3 + j by omega, ih]
      simp [List.getD]
theorem fl3_snoc (ts : List St) (x : St) : fl3 (ts ++ [x]) = fl3 ts ++ x.li := by simp [fl3]
theorem ints_get (xs : List Int) (j : Nat) : (ints xs)[j]? = (xs[j]?).map (Value.int .i64) := by simp [ints]
theorem own3_rd {a : Option Addr} {n c : Nat} {ts : List St} (h : w.ownsRow B 115 3 (.slice a n c) n (ints (fl3 ts))) : Rd3 w a n c ts := by
  have hl : ts.length = n := by
    have := h.1
    rw [ints_len, fl3_len] at this
    omega
  rcases h.2 with ⟨h1, h2⟩ | ⟨g, cap, cur, hv, hB, hg, hnc, hcm, hcs, htk⟩
  · simp only [Value.slice.injEq] at h1
    obtain ⟨rfl, rfl, rfl⟩ := h1
    exact ⟨hl, Nat.le_refl _, fun _ => rfl, .inl rfl⟩
  · simp only [Value.slice.injEq] at hv
    obtain ⟨rfl, -, rfl⟩ := hv
    refine ⟨hl, by omega, by simp, .inr ⟨g, 0, rfl, fun i hi j v hj => ?_⟩⟩
    have hj3 : j < 3 := by
      have := (List.getElem?_eq_some_iff.1 hj).1
      rw [ints_len, St.li_len] at this
      exact this
    rw [Nat.zero_add, blk_cell hg (i * 3 + j)]
    have e1 : (cur.toList.take (n * 3))[i * 3 + j]? = (ints (fl3 ts))[i * 3 + j]? := by rw [htk]
    rw [List.getElem?_take_of_lt (by omega)] at e1
    rw [← Array.getElem?_toList, e1, ints_get, fl3_at ts i j (by omega) hj3, ← ints_get, hj]
theorem rd3_cells {ao : Option Addr} {n c : Nat} {ts : List St} (h : Rd3 w ao n c ts) : ∀ ad, ao = some ad → ∀ j u, (ints (fl3 ts))[j]? = some u → w.cell? (ad.add j) = some u := by
  intro ad ha
  have h1 := h.len
  rcases h.at_ with h2 | ⟨b, o, e, hc⟩
  · obtain rfl : ts = [] := List.eq_nil_of_length_eq_zero (by omega)
    intro j u hu
    simp [fl3, ints] at hu
  · obtain rfl : ad = ⟨b, o, none⟩ := by rw [ha] at e; simpa using e
    intro j u hu
    have hj : j < n * 3 := by
      have := (List.getElem?_eq_some_iff.1 hu).1
      rw [ints_len, fl3_len] at this
      omega
    rw [Addr.add_lit]
    have := hc (j / 3) (by omega) (j % 3) u (by
      rw [← hu, ints_get, ints_get, ← fl3_at ts (j / 3) (j % 3) (by omega) (by omega)]
      congr 1
      congr 1
      omega)
    rw [show o + j / 3 * 3 + j % 3 = o + j by omega] at this
    exact this
theorem mb_info : ∃ i : TypeInfo, Try.prog.info? 115 = some i ∧ i.zero = some (.agg #[.int .i64 0, .int .i64 0, .int .i64 0]) ∧ i.size = 3 ∧ i.bytes = 24 := by
  have h : (Try.prog.info? 115).map (fun i => (i.zero, i.size, i.bytes)) = some (some (.agg #[.int .i64 0, .int .i64 0, .int .i64 0]), 3, 24) := by kernel_rfl
  cases hi : Try.prog.info? 115 with
  | none => rw [hi] at h; cases h
  | some i =>
    rw [hi] at h
    simp only [Option.map_some, Option.some.injEq, Prod.mk.injEq] at h
    exact ⟨i, rfl, h.1, h.2.1, h.2.2⟩
theorem vw_info : ∃ i : TypeInfo, Try.prog.info? 52 = some i ∧ i.zero = some (.agg #[.int .i64 0, .int .i64 0, .int .i64 0, .int .i64 0, .slice none 0 0]) ∧ i.size = 5 ∧ i.bytes = 56 := by
  have h : (Try.prog.info? 52).map (fun i => (i.zero, i.size, i.bytes)) = some (some (.agg #[.int .i64 0, .int .i64 0, .int .i64 0, .int .i64 0, .slice none 0 0]), 5, 56) := by kernel_rfl
  cases hi : Try.prog.info? 52 with
  | none => rw [hi] at h; cases h
  | some i =>
    rw [hi] at h
    simp only [Option.map_some, Option.some.injEq, Prod.mk.injEq] at h
    exact ⟨i, rfl, h.1, h.2.1, h.2.2⟩
theorem wp_app_m {w0 : World} {o : Oper} {a : Act} {K : Act → World → Prop} {Q : Exit → Act → World → Prop} (s x : Operand)
    (ho : o.op = .call { callee := .builtin .append, args := #[s, x], argTypes := #[50, 50] })
    (v : Value) (n : Nat) (ts : List St) (hs : a.eval s = v) (hown : w.ownsRow w0.heap.size 115 3 v n (ints (fl3 ts))) (hb : Below w0.heap.size w0 w)
    (ad : Addr) (k c : Nat) (ys : List St) (hx : a.eval x = .slice (some ad) k c) (hr : Rd3 w (some ad) k c ys) (hn : n + k ≤ 5864062014805)
    (h : ∀ v' w', Hid (w'.ownsRow w0.heap.size 115 3 v' (n + k) (ints (fl3 (ts ++ ys)))) → Hid (Below w0.heap.size w0 w') → Hid (w.grownBy w' v.ownBlock) → K (a.put o.dst v') w') : o.wp Try.prog a w K Q := by
  obtain ⟨i0, hi, hz0, hz1, hz2⟩ := mb_info
  have hk := hr.len
  refine wp_append_own w s x 50 ho w0.heap.size 115 i0 (.agg #[.int .i64 0, .int .i64 0, .int .i64 0]) 3 24 Try.underlying50 hi hz0 hz1 hz2 (by rfl) (by decide) v n (ints (fl3 ts)) hs hown ad k c (ints (fl3 ys)) hx (by rw [ints_len, fl3_len]; omega) (rd3_cells hr ad rfl) (ints_one _) (by unfold maxLen; omega) (by omega) hb.size ?_
  intro v' w' h2 h3 _
  exact h v' w' (by show World.ownsRow _ _ _ _ _ _ _; simpa [ints, fl3] using h2) (hb.grown h3 hb.size (fun q hq => (World.ownsRow.lt hown q hq).1)) h3
structure Ve where
  v : Vw
  mo : Option Addr
  mn : Nat
  mc : Nat
def Ve.cs (e : Ve) : List Value := [.int .i64 e.v.ep, .int .i64 e.v.ld, .int .i64 e.v.ic, .int .i64 e.v.cd, .slice e.mo e.mn e.mc]
def ve0 : Ve := ⟨⟨0, 0, 0, 0, []⟩, none, 0, 0⟩
def flE (es : List Ve) : List Value := es.flatMap Ve.cs
theorem flE_len : ∀ es : List Ve, (flE es).length = es.length * 5
  | [] => rfl
  | x :: r => by
      have := flE_len r
      simp only [flE, List.flatMap_cons, List.length_append, List.length_cons, Ve.cs, List.length_nil] at this ⊢
      rw [this]
      omega
theorem flE_at : ∀ (es : List Ve) (i j : Nat), i < es.length → j < 5 → (flE es)[i * 5 + j]? = (es.getD i ve0).cs[j]?
  | [], i, j, h, _ => by simp at h
  | x :: r, 0, j, h, hj => by
      simp only [flE, List.flatMap_cons, Nat.zero_mul, Nat.zero_add]
      rw [List.getElem?_append_left (by show j < 5; exact hj)]
      simp [List.getD]
  | x :: r, i + 1, j, h, hj => by
      have ih := flE_at r i j (by simpa using h) hj
      simp only [flE, List.flatMap_cons] at ih ⊢
      have hl : x.cs.length = 5 := rfl
      rw [List.getElem?_append_right (by rw [hl]; omega), hl, show (i + 1) * 5 + j - 5 = i * 5 + j by omega, ih]
      simp [List.getD]
structure Rq where
  b : Nat
  v : List Nat
  vo : Option Addr
  vc : Nat
  wo : Option Addr
  wc : Nat
  es : List Ve
structure Rq.Ok (R : Rq) (w : World) (B : Nat) : Prop where
  blk : w.heap[R.b]? = some (.cells #[.slice R.vo R.v.length R.vc, .slice R.wo R.es.length R.wc] 109 (0, 0))
  bB : B ≤ R.b
  vot : w.ownsRow B 3 1 (.slice R.vo R.v.length R.vc) R.v.length (ints (zi R.v))
  ok : Qm.Ok R.v
  row : w.ownsRow B 52 5 (.slice R.wo R.es.length R.wc) R.es.length (flE R.es)
  mem : ∀ e ∈ R.es, w.ownsRow B 115 3 (.slice e.mo e.mn e.mc) e.mn (ints (fl3 e.v.ms)) ∧ (∃ s, viewP R.v.length e.v = some s) ∧ e.mn ≤ 5864062014634
theorem own_type {t s n : Nat} {v : Value} {l : List Value} {g : Nat} (h : w.ownsRow B t s v n l) (hg : v.ownBlock = some g) : ∃ cur, w.heap[g]? = some (.cells cur t (0, 0)) := by
  rcases h.2 with ⟨h1, h2⟩ | ⟨g', cap, cur, hv, hB, hh, _⟩
  · rw [h1] at hg; cases hg
  · rw [hv] at hg
    simp only [Value.ownBlock, Option.some.injEq] at hg
    exact ⟨cur, hg ▸ hh⟩
theorem own_keepT {P : Nat → Prop} {t s n : Nat} {v : Value} {l : List Value} (h : w.ownsRow B t s v n l) (k : Kept w w' P) (hp : ∀ g cur, w.heap[g]? = some (.cells cur t (0, 0)) → ¬ P g) : w'.ownsRow B t s v n l :=
  k.owns h fun g hg => by
    obtain ⟨cur, hc⟩ := own_type h hg
    exact hp g cur hc
theorem ty_ne {a b t t' : Nat} {C C' : Array Value} (h : w.heap[a]? = some (.cells C t (0, 0))) (h' : w.heap[b]? = some (.cells C' t' (0, 0))) (ht : t ≠ t') : a ≠ b := by
  intro e
  subst e
  rw [h] at h'
  simp only [Option.some.injEq, Obj.cells.injEq] at h'
  exact ht h'.2.1
theorem Rq.Ok.keep {R : Rq} {P : Nat → Prop} (h : R.Ok w B) (k : Kept w w' P) (h1 : ¬ P R.b) (h2 : ∀ g cur, w.heap[g]? = some (.cells cur 3 (0, 0)) → ¬ P g) (h3 : ∀ g cur, w.heap[g]? = some (.cells cur 52 (0, 0)) → ¬ P g) (h4 : ∀ g cur, w.heap[g]? = some (.cells cur 115 (0, 0)) → ¬ P g) : R.Ok w' B :=
  ⟨k.obj h.blk h1, h.bB, own_keepT h.vot k h2, h.ok, own_keepT h.row k h3, fun e he => ⟨own_keepT (h.mem e he).1 k h4, (h.mem e he).2⟩⟩
theorem Rq.Ok.still {R : Rq} (h : R.Ok w B) (hb : Below w.heap.size w w') : R.Ok w' B := h.keep (Kept.ofBelow hb (fun _ => False)) id (fun _ _ _ => id) (fun _ _ _ => id) (fun _ _ _ => id)
theorem Rq.Ok.keepA {R : Rq} {A : Wa} (h : R.Ok w B) (hA : A.Ok w) (k : Kept w w' (fun j => j = A.b)) : R.Ok w' B :=
  h.keep k (ty_ne h.blk hA.blk (by decide)) (fun g cur hg => ty_ne hg hA.blk (by decide)) (fun g cur hg => ty_ne hg hA.blk (by decide)) (fun g cur hg => ty_ne hg hA.blk (by decide))
theorem Wa.Ok.keepR {A : Wa} {P : Nat → Prop} (h : A.Ok w) (k : Kept w w' P) (hp : ∀ g cur, w.heap[g]? = some (.cells cur 106 (0, 0)) → ¬ P g) : A.Ok w' := h.keep k (hp _ _ h.blk)
theorem Rq.Ok.view {R : Rq} (h : R.Ok w B) {i : Nat} (hi : i < R.es.length) : ∃ b, R.wo = some ⟨b, 0, none⟩ ∧ w.rangeAt b (i * 5) (R.es.getD i ve0).cs := by
  rcases h.row.2 with ⟨h1, h2⟩ | ⟨g, cap, cur, hv, hB, hg, hnc, hcm, hcs, htk⟩
  · omega
  · simp only [Value.slice.injEq] at hv
    refine ⟨g, hv.1, fun j u hj => ?_⟩
    have hj5 : j < 5 := by
      have := (List.getElem?_eq_some_iff.1 hj).1
      exact this
    rw [blk_cell hg (i * 5 + j)]
    have e1 : (cur.toList.take (R.es.length * 5))[i * 5 + j]? = (flE R.es)[i * 5 + j]? := by rw [htk]
    rw [List.getElem?_take_of_lt (by omega)] at e1
    rw [← Array.getElem?_toList, e1, flE_at _ _ _ hi hj5, hj]
theorem Rq.Ok.c0 {R : Rq} (h : R.Ok w B) : w.cell? ⟨R.b, 0, none⟩ = some (.slice R.vo R.v.length R.vc) := blk_cell h.blk 0
theorem Rq.Ok.c1 {R : Rq} (h : R.Ok w B) : w.cell? ⟨R.b, 1, none⟩ = some (.slice R.wo R.es.length R.wc) := blk_cell h.blk 1
theorem Rq.Ok.votes {R : Rq} (h : R.Ok w B) : RdI w R.vo R.v.length R.vc (zi R.v) := own_rd h.vot
set_option maxHeartbeats 2000000 in
theorem rnew_yes {ao : Option Addr} {n c : Nat} {xs : List Int} (hr : RdI w ao n c xs) (hok : okI xs = true) : Calls Try.prog 44 #[.slice ao n c] w fun e w' => ∃ R : Rq, e = .returned (.tuple #[.pointer (some ⟨R.b, 0, none⟩), .int .i64 0]) ∧ R.Ok w' w.heap.size ∧ R.v = nv xs ∧ R.es = [] ∧ Below w.heap.size w w' := by
  have HC0 := rcheck_any hr
  unfold chkE at HC0
  rw [hok] at HC0
  have HC : Hid (Calls Try.prog 30 #[.slice ao n c] w fun e w' => e = .returned (.int .i64 0) ∧ w = w') := HC0
  have ho := okI_ok hok
  have hl : (nv xs).length = n := by rw [nv_len, hr.len]
  have h16 : n ≤ 16 := by rw [← hl]; exact ho.1
  have HR : Hid (RdI w ao n c xs) := hr
  have HO : Hid (Qm.Ok (nv xs) ∧ (nv xs).length = n ∧ zi (nv xs) = xs) := ⟨ho, hl, by
    apply List.ext_getElem?
    intro i
    by_cases hi : i < xs.length
    · have hx : in9 xs[i] = true := by
        unfold okI at hok
        simp only [Bool.and_eq_true] at hok
        exact List.all_eq_true.1 hok.2.1 _ (List.getElem_mem hi)
      have := of_decide_eq_true hx
      simp only [zi, nv, List.map_map, List.getElem?_map, List.getElem?_eq_getElem hi, Option.map_some, Function.comp, Option.some.injEq]
      show ((xs[i]).toNat : Int) = xs[i]
      omega
    · rw [List.getElem?_eq_none (by simp [zi, nv]; omega), List.getElem?_eq_none (by omega)]⟩
  clear HC0 hr hok ho hl
  go_enter Try.func44, Try.ntmps44
  go_wp2_with (first
    | (go_at_call 30; refine HC.out.mono ?_; rintro e w' ⟨rfl, rfl⟩)
    | (at_builtin; refine app_i (w0 := w) rfl _ _ rfl (.slice none 0 0) 0 [] rfl (row_nil _ _) (Below.refl _ _) _ n c xs rfl HR.out (by omega) ?_; intro v1 w1 HO1 HB1; obtain ⟨a1, c1, rfl⟩ := own_shape HO1.out)
    | fail)
  (try simp only [Exit.inBlock, Exit.then])
  refine bodyPost_ret (results_tmp2 rfl _ _ _) rfl ?_
  refine ⟨⟨w1.heap.size, nv xs, a1, c1, none, 0, []⟩, rfl, ⟨?_, HB1.out.size, ?_, HO.out.1, ⟨rfl, .inl ⟨rfl, rfl⟩⟩, by simp⟩, rfl, rfl, balloc HB1.out⟩
  · show (w1.alloc _).heap[w1.heap.size]? = some (.cells #[.slice a1 (nv xs).length c1, .slice none 0 0] 109 (0, 0))
    rw [HO.out.2.1]
    have := heap_alloc_new w1 (.cells #[.slice a1 (0 + n) c1, .slice none 0 0] 109)
    rw [Nat.zero_add] at this
    exact this
  · have := HO1.out.alloc (.cells #[.slice a1 n c1, .slice none 0 0] 109)
    rw [Nat.zero_add, List.nil_append] at this
    show (w1.alloc _).ownsRow _ _ _ (.slice a1 (nv xs).length c1) (nv xs).length (ints (zi (nv xs)))
    rw [HO.out.2.1, HO.out.2.2]
    exact this
end
end Go.Proofs.Ytcieinejjkddfab.Qm
