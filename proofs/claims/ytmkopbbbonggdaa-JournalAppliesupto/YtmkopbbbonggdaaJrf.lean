import Derived.Test.YtmkopbbbonggdaaJre
namespace Go.Proofs.Ytmkopbbbonggdaa.Jn
open Go.RowKit Mb Fg
set_option linter.unusedVariables false
set_option maxRecDepth 100000
set_option linter.unusedSimpArgs false
section
variable {w w' W : World} {B : Nat}
theorem own_set {base g N c : Nat} {bs : List Int} (h : Own w base (.slice (some ⟨g, 0, none⟩) N c) bs) (i : Nat) (x : Int) (hi : i < bs.length) : Own (w.setCell ⟨g, i, none⟩ (.int .u8 x)) base (.slice (some ⟨g, 0, none⟩) N c) (bs.set i x) := by
  rcases h.2 with ⟨h1, h2⟩ | ⟨g', cap, cur, hv, hB, hg, hnc, hcm, hcs, htk⟩
  · cases h1
  · simp only [Value.slice.injEq, Option.some.injEq, Addr.mk.injEq] at hv
    obtain ⟨⟨rfl, -, -⟩, rfl, rfl⟩ := hv
    refine ⟨by simp [byts], .inr ⟨g, c, cur.setIfInBounds i (.int .u8 x), by simp, hB, blk_set hg rfl, by simpa using hnc, hcm, by simpa using hcs, ?_⟩⟩
    have e : (cur.setIfInBounds i (.int .u8 x)).toList = cur.toList.set i (.int .u8 x) := by simp
    rw [e, List.length_set, List.take_set, htk]
    simp [byts]
structure Sp (w : World) (base g n c : Nat) (bs : List Int) : Prop where
  own : Own w base (.slice (some ⟨g, 0, none⟩) (n + 64) c) (bs ++ marks 64)
  cap : n + 64 ≤ c
  len : bs.length = n
  by_ : By bs
section
variable {base g n c : Nat} {bs : List Int}
theorem Sp.rd (h : Sp w base g n c bs) : Rd w (some ⟨g, 0, none⟩) n c bs := h.own.rdPre h.by_ h.len (by have := h.cap; omega)
theorem Sp.still (h : Sp w base g n c bs) (hb : Below w.heap.size w w') : Sp w' base g n c bs := ⟨h.own.still hb, h.cap, h.len, h.by_⟩
theorem Sp.lo (h : Sp w base g n c bs) : base ≤ g ∧ g < w.heap.size := h.own.lo rfl
theorem Sp.keep {P : Nat → Prop} (h : Sp w base g n c bs) (k : Kept w w' P) (hp : ¬ P g) : Sp w' base g n c bs := ⟨h.own.keep k (fun j hj => by have : g = j := Option.some.inj hj; subst this; exact hp), h.cap, h.len, h.by_⟩
theorem Sp.ty (h : Sp w base g n c bs) : ∃ cur, w.heap[g]? = some (.cells cur 5 (0, 0)) := own_type h.own rfl
end
def fulN (x : Int) (k : Nat) (bs : List Int) : List Int := List.replicate k x ++ bs.drop k
theorem fulN_len {x : Int} {k : Nat} {bs : List Int} (h : k ≤ bs.length) : (fulN x k bs).length = bs.length := by simp [fulN]; omega
theorem fulN_set {x : Int} {k : Nat} {bs ms : List Int} (h : k < bs.length) : (fulN x k bs ++ ms).set k x = fulN x (k + 1) bs ++ ms := by
  unfold fulN
  have e : bs.drop k = bs.getD k 0 :: bs.drop (k + 1) := by rw [List.drop_eq_getElem_cons h]; simp [List.getD, h]
  rw [e, List.append_assoc, List.set_append_right _ _ (by simp), List.length_replicate, Nat.sub_self]
  rw [List.replicate_succ']
  simp
set_option maxHeartbeats 2000000 in
theorem fulls_any {base g n c : Nat} {bs : List Int} {x : Int} (h : Sp w base g n c bs) (hn : n ≤ 1000000000) (hx : 0 ≤ x ∧ x ≤ 255) : Calls Try.prog 11 #[.slice (some ⟨g, 0, none⟩) n c, .int .u8 x] w fun e w' => e = .returned (.tuple #[]) ∧ Sp w' base g n c (List.replicate n x) ∧ Kept w w' (fun k => k = g) := by
  have Hh : Hid (Sp w base g n c bs) := h
  have Hl : Hid (bs.length = n) := h.len
  clear h
  go_enter Try.func11, Try.ntmps11
  go_wp2
  go_loopw [4] (fun i wr => ∃ k : Nat, k ≤ n ∧ i = .int .i64 (k : Int) ∧ Hid (Own wr base (.slice (some ⟨g, 0, none⟩) (n + 64) c) (fulN x k bs ++ marks 64) ∧ Kept w wr (fun k => k = g))) (fun i _ => n - (intOf i).toNat)
  case atStart => exact ⟨0, Nat.zero_le _, rfl, by simpa [fulN] using Hh.out.own, Kept.refl _ _⟩
  case round =>
    obtain ⟨k, hk, rfl, HO⟩ := hrel
    have hlen : (fulN x k bs ++ marks 64).length = n + 64 := by rw [List.length_append, fulN_len (by rw [Hl.out]; exact hk), Hl.out, marks_len]
    by_cases hlt : k < n
    · obtain ⟨v, hv⟩ : ∃ v, wr.cell? ⟨g, k, none⟩ = some v := ⟨_, sp_cell (n := n + 64) HO.out.1 (by omega)⟩
      obtain ⟨cur, hcur⟩ := own_type HO.out.1 (rfl : (Value.slice (some ⟨g, 0, none⟩) (n + 64) c).ownBlock = some g)
      have hf : wr.frozen? ⟨g, k, none⟩ = false := frozen_of_row wr _ k _ _ hcur
      have HN : Hid (Own (wr.setCell ⟨g, k, none⟩ (.int .u8 x)) base (.slice (some ⟨g, 0, none⟩) (n + 64) c) (fulN x (k + 1) bs ++ marks 64)) := by
        have := own_set HO.out.1 k x (by omega)
        rw [fulN_set (by rw [Hl.out]; exact hlt)] at this
        exact this
      have HK : Hid (Kept w (wr.setCell ⟨g, k, none⟩ (.int .u8 x)) (fun k => k = g)) := HO.out.2.trans (kset wr g k _ rfl)
      have i1 : (0 : Int) ≤ (k : Int) := Int.natCast_nonneg _
      have i2 : (k : Int) < (n : Int) := by omega
      clear hcur hlen HO
      go_wp2
      exact ⟨⟨k + 1, by omega, by go_num, HN.out, HK.out⟩, by simp [intOf]; omega⟩
    · obtain rfl : k = n := by omega
      clear hlen
      go_wp2
      go_end0
      refine ⟨rfl, ⟨?_, Hh.out.cap, by simp, By.of (fun y hy => by rw [List.eq_of_mem_replicate hy]; exact hx)⟩, HO.out.2⟩
      have := HO.out.1
      unfold fulN at this
      rw [List.drop_of_length_le (by rw [Hl.out]; exact Nat.le_refl _), List.append_nil] at this
      exact this
set_option maxHeartbeats 1000000 in
theorem disks_any {a1 a2 b1 b2 : Option Addr} {n1 n2 m1 m2 c1 c2 e1 e2 : Nat} {x y : List Int} (h1 : Rd w a1 n1 c1 x) (h2 : Rd w a2 n2 c2 y) (h3 : Rd w b1 m1 e1 x) (h4 : Rd w b2 m2 e2 y) : Calls Try.prog 9 #[.agg #[.slice a1 n1 c1, .slice a2 n2 c2], .agg #[.slice b1 m1 e1, .slice b2 m2 e2]] w fun e w' => e = .returned (.bool true) ∧ Below w.heap.size w w' := by
  generalize hW1 : w.alloc (.cells #[.slice a1 n1 c1, .slice a2 n2 c2] 24) = W1
  generalize hW2 : W1.alloc (.cells #[.slice b1 m1 e1, .slice b2 m2 e2] 24) = W2
  have s1 : W1.heap.size = w.heap.size + 1 := by rw [← hW1]; simp
  have k1 : Below w.heap.size w W1 := by rw [← hW1]; exact balloc (Below.refl _ _)
  have k2 : Below W1.heap.size W1 W2 := by rw [← hW2]; exact balloc (Below.refl _ _)
  have q1 : W2.heap[w.heap.size]? = some (.cells #[.slice a1 n1 c1, .slice a2 n2 c2] 24 (0, 0)) := (k2.block _ (by omega)).trans (by rw [← hW1]; exact heap_alloc_new w _)
  have q2 : W2.heap[W1.heap.size]? = some (.cells #[.slice b1 m1 e1, .slice b2 m2 e2] 24 (0, 0)) := by rw [← hW2]; exact heap_alloc_new W1 _
  have HB : Hid (Below w.heap.size w W2) := bstep k1 k2
  have x0 : W2.cell? ⟨w.heap.size, 0, none⟩ = some (.slice a1 n1 c1) := blk_cell q1 0
  have x1 : W2.cell? ⟨w.heap.size, 1, none⟩ = some (.slice a2 n2 c2) := blk_cell q1 1
  have x2 : W2.cell? ⟨W1.heap.size, 0, none⟩ = some (.slice b1 m1 e1) := blk_cell q2 0
  have x3 : W2.cell? ⟨W1.heap.size, 1, none⟩ = some (.slice b2 m2 e2) := blk_cell q2 1
  have S1 : Hid (Calls Try.prog 15 #[.slice a1 n1 c1, .slice b1 m1 e1] W2 fun e w' => e = .returned (.bool true) ∧ W2 = w') := same_any (h1.still HB.out) (h3.still HB.out)
  have S2 : Hid (Calls Try.prog 15 #[.slice a2 n2 c2, .slice b2 m2 e2] W2 fun e w' => e = .returned (.bool true) ∧ W2 = w') := same_any (h2.still HB.out) (h4.still HB.out)
  clear h1 h2 h3 h4 k1 k2 q1 q2 s1
  go_enter Try.func9, Try.ntmps9
  go_wp2_with (fail)
  refine S1.out.mono ?_
  rintro e w2 ⟨rfl, rfl⟩
  go_wp2_with (fail)
  refine S2.out.mono ?_
  rintro e w2 ⟨rfl, rfl⟩
  go_wp2
  go_ret
  exact ⟨rfl, HB.out⟩
def mkW (x : Wr) (p : Nat × Nat) (bs : List Int) : Wr := ⟨x.f, x.st, some ⟨p.1, 0, none⟩, x.n, p.2, bs⟩
def Lk (l : List Wr) (gs : List (Nat × Nat)) (ys : Nat → List Int) : List Wr := (List.range gs.length).map fun i => mkW (l.getD i wr0) (gs.getD i (0, 0)) (ys i)
theorem Lk_len (l : List Wr) (gs : List (Nat × Nat)) (ys : Nat → List Int) : (Lk l gs ys).length = gs.length := by simp [Lk]
theorem Lk_at (l : List Wr) (gs : List (Nat × Nat)) (ys : Nat → List Int) {i : Nat} (h : i < gs.length) : (Lk l gs ys).getD i wr0 = mkW (l.getD i wr0) (gs.getD i (0, 0)) (ys i) := by simp [Lk, List.getD, h]
theorem Lk_snoc (l : List Wr) (gs : List (Nat × Nat)) (p : Nat × Nat) (ys : Nat → List Int) : Lk l (gs ++ [p]) ys = Lk l gs ys ++ [mkW (l.getD gs.length wr0) p (ys gs.length)] := by
  unfold Lk
  rw [List.length_append, List.length_singleton, List.range_succ, List.map_append]
  congr 1
  · refine List.map_congr_left fun i hi => ?_
    have hi2 : i < gs.length := List.mem_range.1 hi
    simp [List.getD, List.getElem?_append_left hi2]
  · simp [List.getD]
def flW (l : List Wr) : List Value := l.flatMap Wr.cs
theorem flW_len : ∀ l : List Wr, (flW l).length = l.length * 3
  | [] => rfl
  | x :: r => by
      have := flW_len r
      simp only [flW, List.flatMap_cons, List.length_append, List.length_cons, Wr.cs_len] at this ⊢
      omega
theorem flW_at : ∀ (l : List Wr) (i j : Nat), i < l.length → j < 3 → (flW l)[i * 3 + j]? = (l.getD i wr0).cs[j]?
  | [], i, j, h, _ => by simp at h
  | x :: r, 0, j, h, hj => by
      simp only [flW, List.flatMap_cons, Nat.zero_mul, Nat.zero_add]
      rw [List.getElem?_append_left (by rw [Wr.cs_len]; exact hj)]
      simp [List.getD]
  | x :: r, i + 1, j, h, hj => by
      have ih := flW_at r i j (by simpa using h) hj
      simp only [flW, List.flatMap_cons] at ih ⊢
      rw [List.getElem?_append_right (by rw [Wr.cs_len]; omega), Wr.cs_len, show (i + 1) * 3 + j - 3 = i * 3 + j by omega, ih]
      simp [List.getD]
theorem wr_info : ∃ i : TypeInfo, Try.prog.info? 28 = some i ∧ i.zero = some (.agg #[.int .i64 0, .bool false, .slice none 0 0]) ∧ i.size = 3 ∧ i.bytes = 40 := by
  have h : (Try.prog.info? 28).map (fun i => (i.zero, i.size, i.bytes)) = some (some (.agg #[.int .i64 0, .bool false, .slice none 0 0]), 3, 40) := by kernel_rfl
  cases hi : Try.prog.info? 28 with
  | none => rw [hi] at h; cases h
  | some i =>
    rw [hi] at h
    simp only [Option.map_some, Option.some.injEq, Prod.mk.injEq] at h
    exact ⟨i, rfl, h.1, h.2.1, h.2.2⟩
theorem wp_app_w {w0 : World} {o : Oper} {a : Act} {K : Act → World → Prop} {Q : Exit → Act → World → Prop} (s x : Operand)
    (ho : o.op = .call { callee := .builtin .append, args := #[s, x], argTypes := #[25, 25] })
    (v : Value) (n : Nat) (l : List Wr) (hs : a.eval s = v) (hown : w.ownsRow w0.heap.size 28 3 v n (flW l)) (hb : Below w0.heap.size w0 w)
    (g : Nat) (y : Wr) (hx : a.eval x = .slice (some ⟨g, 0, none⟩) 1 1) (hg : w.heap[g]? = some (.cells y.cs.toArray 28 (0, 0))) (hn : n ≤ 3000000000000)
    (h : ∀ v' w', Hid (w'.ownsRow w0.heap.size 28 3 v' (n + 1) (flW (l ++ [y]))) → Hid (Below w0.heap.size w0 w') → Hid (w.grownBy w' v.ownBlock) → K (a.put o.dst v') w') : o.wp Try.prog a w K Q := by
  obtain ⟨i0, hi, hz0, hz1, hz2⟩ := wr_info
  refine wp_append_own w s x 25 ho w0.heap.size 28 i0 (.agg #[.int .i64 0, .bool false, .slice none 0 0]) 3 40 Try.underlying25 hi hz0 hz1 hz2 (by rfl) (by decide) v n (flW l) hs hown ⟨g, 0, none⟩ 1 1 y.cs hx rfl (fun j u hu => by rw [Addr.add_lit, Nat.zero_add, blk_cell hg, List.getElem?_toArray]; exact hu) y.cs_one (by unfold maxLen; omega) (by omega) hb.size ?_
  intro v' w' h2 h3 _
  exact h v' w' (by show World.ownsRow _ _ _ _ _ _ _; simpa [flW] using h2) (hb.grown h3 hb.size (fun q hq => (World.ownsRow.lt hown q hq).1)) h3
end
end Go.Proofs.Ytmkopbbbonggdaa.Jn
