import Derived.Test.YthogcanfinjfdaaMj
namespace Go.Proofs.Ythogcanfinjfdaa.Et
open Go.RowKit Go.Maps
set_option linter.unusedVariables false
set_option linter.unusedSimpArgs false
set_option maxRecDepth 100000
structure Opx where
  k : Int
  p : Int
  q : Int
  n : Int
  ba : Option Addr
  bn : Nat
  bc : Nat
  sa : Option Addr
  sn : Nat
  sc : Nat
def Opx.cs (o : Opx) : Array Value := #[.int .i64 o.k, .int .i64 o.p, .int .i64 o.q, .int .i64 o.n, .slice o.ba o.bn o.bc, .slice o.sa o.sn o.sc]
theorem op_cells {w : World} {t : TypeId} {k : Nat} {o : Opx} (h : w.heap[k]? = some (.cells o.cs t (0, 0))) : w.cell? ⟨k, 0, none⟩ = some (.int .i64 o.k) ∧ w.cell? ⟨k, 1, none⟩ = some (.int .i64 o.p) ∧ w.cell? ⟨k, 2, none⟩ = some (.int .i64 o.q) ∧ w.cell? ⟨k, 3, none⟩ = some (.int .i64 o.n) ∧ w.cell? ⟨k, 4, none⟩ = some (.slice o.ba o.bn o.bc) ∧ w.cell? ⟨k, 5, none⟩ = some (.slice o.sa o.sn o.sc) :=
  ⟨blk_cell h 0, blk_cell h 1, blk_cell h 2, blk_cell h 3, blk_cell h 4, blk_cell h 5⟩
def RdI (w : World) (ao : Option Addr) (len cap : Nat) (xs : List Int) : Prop :=
  xs.length = len ∧ (ao = none → len = 0 ∧ cap = 0) ∧ (len = 0 ∨ ∃ b off, ao = some ⟨b, off, none⟩ ∧ ∀ i, i < len → w.cell? ⟨b, off + i, none⟩ = some (.int .i64 (xs.getD i 0)))
def sv (x : Int) : Value := .int .i64 x
def mks (k : Nat) : List Int := (List.range k).map fun (i : Nat) => (700 : Int) + (i : Int)
theorem mks_succ (k : Nat) : mks (k + 1) = mks k ++ [(700 : Int) + (k : Int)] := by simp [mks, List.range_succ]
theorem mks_len (k : Nat) : (mks k).length = k := by simp [mks]
theorem mks_at (k i : Nat) (hi : i < k) : (mks k).getD i 0 = 700 + (i : Int) := by simp [mks, List.getD, hi]
def MarkedI (w : World) (B g n c : Nat) (xs : List Int) : Prop := w.ownsRow B 3 1 (.slice (some ⟨g, 0, none⟩) (n + 64) c) (n + 64) ((xs ++ mks 64).map (Value.int .i64))
section
variable {w w' W w1 : World} {B m : Nat}
theorem RdI.still {ao : Option Addr} {len cap : Nat} {xs : List Int} (h : RdI w ao len cap xs) (hb : Below w.heap.size w w') : RdI w' ao len cap xs := by
  obtain ⟨h1, h2, h3⟩ := h
  refine ⟨h1, h2, h3.elim (fun hh => Or.inl hh) (fun hh => Or.inr ?_)⟩
  obtain ⟨b, off, rfl, hc⟩ := hh
  exact ⟨b, off, rfl, fun i hi => (hb.cell (World.block_lt_of_cell? w _ (hc i hi))).trans (hc i hi)⟩
theorem RdI.cells {ao : Option Addr} {len cap : Nat} {xs : List Int} (h : RdI w ao len cap xs) : ∀ ad, ao = some ad → ∀ j u, (xs.map (Value.int .i64))[j]? = some u → w.cell? (ad.add j) = some u := by
  intro a ha j v hv
  obtain ⟨hl, _, hc⟩ := h
  have hj : j < len := by have := (List.getElem?_eq_some_iff.1 hv).1; simpa [hl] using this
  rcases hc with hc | ⟨b, off, hao, hc⟩
  · omega
  · rw [ha] at hao
    obtain rfl : a = ⟨b, off, none⟩ := by simpa using hao
    have e : (⟨b, off, none⟩ : Addr).add j = ⟨b, off + j, none⟩ := by unfold Addr.add; split <;> simp_all
    rw [e, hc j hj]
    rw [List.getElem?_map, List.getElem?_eq_getElem (show j < xs.length by omega)] at hv
    simp only [Option.map_some, Option.some.injEq] at hv
    rw [← hv]
    simp [List.getD, List.getElem?_eq_getElem (show j < xs.length by omega)]
theorem ints_one (xs : List Int) : ∀ u ∈ xs.map (Value.int .i64), u.oneCell' = true := by
  intro u hu
  obtain ⟨_, _, rfl⟩ := List.mem_map.1 hu
  rfl
def put13 (W : World) (k : Nat) (v0 v1 v2 v3 v4 v5 v6 v7 v8 v9 v10 v11 v12 : Value) : World := (((((((((((((W.setCell ⟨k, 0, none⟩ v0).setCell ⟨k, 1, none⟩ v1).setCell ⟨k, 2, none⟩ v2).setCell ⟨k, 3, none⟩ v3).setCell ⟨k, 4, none⟩ v4).setCell ⟨k, 5, none⟩ v5).setCell ⟨k, 6, none⟩ v6).setCell ⟨k, 7, none⟩ v7).setCell ⟨k, 8, none⟩ v8).setCell ⟨k, 9, none⟩ v9).setCell ⟨k, 10, none⟩ v10).setCell ⟨k, 11, none⟩ v11).setCell ⟨k, 12, none⟩ v12)
theorem put13_eq (W : World) (k : Nat) (v0 v1 v2 v3 v4 v5 v6 v7 v8 v9 v10 v11 v12 : Value) : (((((((((((((W.setCell ⟨k, 0, none⟩ v0).setCell ⟨k, 1, none⟩ v1).setCell ⟨k, 2, none⟩ v2).setCell ⟨k, 3, none⟩ v3).setCell ⟨k, 4, none⟩ v4).setCell ⟨k, 5, none⟩ v5).setCell ⟨k, 6, none⟩ v6).setCell ⟨k, 7, none⟩ v7).setCell ⟨k, 8, none⟩ v8).setCell ⟨k, 9, none⟩ v9).setCell ⟨k, 10, none⟩ v10).setCell ⟨k, 11, none⟩ v11).setCell ⟨k, 12, none⟩ v12) = put13 W k v0 v1 v2 v3 v4 v5 v6 v7 v8 v9 v10 v11 v12 := rfl
theorem put13_blk {W : World} {k : Nat} {t : TypeId} {z0 z1 z2 z3 z4 z5 z6 z7 z8 z9 z10 z11 z12 : Value} (v0 v1 v2 v3 v4 v5 v6 v7 v8 v9 v10 v11 v12 : Value) (h : W.heap[k]? = some (.cells #[z0, z1, z2, z3, z4, z5, z6, z7, z8, z9, z10, z11, z12] t (0, 0))) : (put13 W k v0 v1 v2 v3 v4 v5 v6 v7 v8 v9 v10 v11 v12).heap[k]? = some (.cells #[v0, v1, v2, v3, v4, v5, v6, v7, v8, v9, v10, v11, v12] t (0, 0)) := by
  have h0 : (W.setCell ⟨k, 0, none⟩ v0).heap[k]? = some (.cells #[v0, z1, z2, z3, z4, z5, z6, z7, z8, z9, z10, z11, z12] t (0, 0)) := blk_set h rfl
  have h1 : ((W.setCell ⟨k, 0, none⟩ v0).setCell ⟨k, 1, none⟩ v1).heap[k]? = some (.cells #[v0, v1, z2, z3, z4, z5, z6, z7, z8, z9, z10, z11, z12] t (0, 0)) := blk_set h0 rfl
  have h2 : (((W.setCell ⟨k, 0, none⟩ v0).setCell ⟨k, 1, none⟩ v1).setCell ⟨k, 2, none⟩ v2).heap[k]? = some (.cells #[v0, v1, v2, z3, z4, z5, z6, z7, z8, z9, z10, z11, z12] t (0, 0)) := blk_set h1 rfl
  have h3 : ((((W.setCell ⟨k, 0, none⟩ v0).setCell ⟨k, 1, none⟩ v1).setCell ⟨k, 2, none⟩ v2).setCell ⟨k, 3, none⟩ v3).heap[k]? = some (.cells #[v0, v1, v2, v3, z4, z5, z6, z7, z8, z9, z10, z11, z12] t (0, 0)) := blk_set h2 rfl
  have h4 : (((((W.setCell ⟨k, 0, none⟩ v0).setCell ⟨k, 1, none⟩ v1).setCell ⟨k, 2, none⟩ v2).setCell ⟨k, 3, none⟩ v3).setCell ⟨k, 4, none⟩ v4).heap[k]? = some (.cells #[v0, v1, v2, v3, v4, z5, z6, z7, z8, z9, z10, z11, z12] t (0, 0)) := blk_set h3 rfl
  have h5 : ((((((W.setCell ⟨k, 0, none⟩ v0).setCell ⟨k, 1, none⟩ v1).setCell ⟨k, 2, none⟩ v2).setCell ⟨k, 3, none⟩ v3).setCell ⟨k, 4, none⟩ v4).setCell ⟨k, 5, none⟩ v5).heap[k]? = some (.cells #[v0, v1, v2, v3, v4, v5, z6, z7, z8, z9, z10, z11, z12] t (0, 0)) := blk_set h4 rfl
  have h6 : (((((((W.setCell ⟨k, 0, none⟩ v0).setCell ⟨k, 1, none⟩ v1).setCell ⟨k, 2, none⟩ v2).setCell ⟨k, 3, none⟩ v3).setCell ⟨k, 4, none⟩ v4).setCell ⟨k, 5, none⟩ v5).setCell ⟨k, 6, none⟩ v6).heap[k]? = some (.cells #[v0, v1, v2, v3, v4, v5, v6, z7, z8, z9, z10, z11, z12] t (0, 0)) := blk_set h5 rfl
  have h7 : ((((((((W.setCell ⟨k, 0, none⟩ v0).setCell ⟨k, 1, none⟩ v1).setCell ⟨k, 2, none⟩ v2).setCell ⟨k, 3, none⟩ v3).setCell ⟨k, 4, none⟩ v4).setCell ⟨k, 5, none⟩ v5).setCell ⟨k, 6, none⟩ v6).setCell ⟨k, 7, none⟩ v7).heap[k]? = some (.cells #[v0, v1, v2, v3, v4, v5, v6, v7, z8, z9, z10, z11, z12] t (0, 0)) := blk_set h6 rfl
  have h8 : (((((((((W.setCell ⟨k, 0, none⟩ v0).setCell ⟨k, 1, none⟩ v1).setCell ⟨k, 2, none⟩ v2).setCell ⟨k, 3, none⟩ v3).setCell ⟨k, 4, none⟩ v4).setCell ⟨k, 5, none⟩ v5).setCell ⟨k, 6, none⟩ v6).setCell ⟨k, 7, none⟩ v7).setCell ⟨k, 8, none⟩ v8).heap[k]? = some (.cells #[v0, v1, v2, v3, v4, v5, v6, v7, v8, z9, z10, z11, z12] t (0, 0)) := blk_set h7 rfl
  have h9 : ((((((((((W.setCell ⟨k, 0, none⟩ v0).setCell ⟨k, 1, none⟩ v1).setCell ⟨k, 2, none⟩ v2).setCell ⟨k, 3, none⟩ v3).setCell ⟨k, 4, none⟩ v4).setCell ⟨k, 5, none⟩ v5).setCell ⟨k, 6, none⟩ v6).setCell ⟨k, 7, none⟩ v7).setCell ⟨k, 8, none⟩ v8).setCell ⟨k, 9, none⟩ v9).heap[k]? = some (.cells #[v0, v1, v2, v3, v4, v5, v6, v7, v8, v9, z10, z11, z12] t (0, 0)) := blk_set h8 rfl
  have h10 : (((((((((((W.setCell ⟨k, 0, none⟩ v0).setCell ⟨k, 1, none⟩ v1).setCell ⟨k, 2, none⟩ v2).setCell ⟨k, 3, none⟩ v3).setCell ⟨k, 4, none⟩ v4).setCell ⟨k, 5, none⟩ v5).setCell ⟨k, 6, none⟩ v6).setCell ⟨k, 7, none⟩ v7).setCell ⟨k, 8, none⟩ v8).setCell ⟨k, 9, none⟩ v9).setCell ⟨k, 10, none⟩ v10).heap[k]? = some (.cells #[v0, v1, v2, v3, v4, v5, v6, v7, v8, v9, v10, z11, z12] t (0, 0)) := blk_set h9 rfl
  have h11 : ((((((((((((W.setCell ⟨k, 0, none⟩ v0).setCell ⟨k, 1, none⟩ v1).setCell ⟨k, 2, none⟩ v2).setCell ⟨k, 3, none⟩ v3).setCell ⟨k, 4, none⟩ v4).setCell ⟨k, 5, none⟩ v5).setCell ⟨k, 6, none⟩ v6).setCell ⟨k, 7, none⟩ v7).setCell ⟨k, 8, none⟩ v8).setCell ⟨k, 9, none⟩ v9).setCell ⟨k, 10, none⟩ v10).setCell ⟨k, 11, none⟩ v11).heap[k]? = some (.cells #[v0, v1, v2, v3, v4, v5, v6, v7, v8, v9, v10, v11, z12] t (0, 0)) := blk_set h10 rfl
  have h12 : (((((((((((((W.setCell ⟨k, 0, none⟩ v0).setCell ⟨k, 1, none⟩ v1).setCell ⟨k, 2, none⟩ v2).setCell ⟨k, 3, none⟩ v3).setCell ⟨k, 4, none⟩ v4).setCell ⟨k, 5, none⟩ v5).setCell ⟨k, 6, none⟩ v6).setCell ⟨k, 7, none⟩ v7).setCell ⟨k, 8, none⟩ v8).setCell ⟨k, 9, none⟩ v9).setCell ⟨k, 10, none⟩ v10).setCell ⟨k, 11, none⟩ v11).setCell ⟨k, 12, none⟩ v12).heap[k]? = some (.cells #[v0, v1, v2, v3, v4, v5, v6, v7, v8, v9, v10, v11, v12] t (0, 0)) := blk_set h11 rfl
  exact h12
theorem put13_kept {W : World} (k : Nat) (v0 v1 v2 v3 v4 v5 v6 v7 v8 v9 v10 v11 v12 : Value) : Kept W (put13 W k v0 v1 v2 v3 v4 v5 v6 v7 v8 v9 v10 v11 v12) (fun j => j = k) := by
  unfold put13
  iterate 12 (refine Kept.trans ?_ (kset _ _ _ _ rfl))
  exact kset _ _ _ _ rfl
set_option maxHeartbeats 1000000 in
theorem event_any (o : Opx) (bs xs : List Int) (hb : Rd w o.ba o.bn o.bc bs) (hs : RdI w o.sa o.sn o.sc xs) (hbn : o.bn ≤ 140737488351232) (hsn : o.sn ≤ 17592186043904) (hk1 : 20 < o.k) (hk2 : o.k ≤ 60) : Calls Try.prog 36 #[.agg o.cs] w fun e w' => ∃ gb cb gs cs, e = .returned (.agg (Ev.cs ⟨o.k - 20, o.p, o.q, o.n, some ⟨gb, 0, none⟩, o.bn, cb, some ⟨gs, 0, none⟩, o.sn, cs⟩)) ∧ Marked w' w.heap.size gb o.bn cb bs ∧ MarkedI w' w.heap.size gs o.sn cs xs ∧ Below w.heap.size w w' := by
  obtain ⟨i0, hi, hz0, hz1, hz2⟩ := info_parts info_i
  generalize hW : (w.alloc (.cells o.cs 33)).alloc (.cells #[.int .i64 0, .int .i64 0, .int .i64 0, .int .i64 0, .slice none 0 0, .int .i64 0, .int .i64 0, .int .i64 0, .int .i64 0, .string ⟨#[]⟩, .string ⟨#[]⟩, .string ⟨#[]⟩, .slice none 0 0] 41) = W
  have hbW : Below w.heap.size w W := by rw [← hW]; exact balloc (balloc (Below.refl _ w))
  have hWs : W.heap.size = w.heap.size + 1 + 1 := by rw [← hW]; simp
  have hblk : W.heap[w.heap.size]? = some (.cells o.cs 33 (0, 0)) := by rw [← hW]; exact blk_alloc (heap_alloc_new w _)
  have hblk2 : W.heap[w.heap.size + 1]? = some (.cells #[.int .i64 0, .int .i64 0, .int .i64 0, .int .i64 0, .slice none 0 0, .int .i64 0, .int .i64 0, .int .i64 0, .int .i64 0, .string ⟨#[]⟩, .string ⟨#[]⟩, .string ⟨#[]⟩, .slice none 0 0] 41 (0, 0)) := by
    rw [← hW]
    have := heap_alloc_new (w.alloc (.cells o.cs 33)) (.cells #[.int .i64 0, .int .i64 0, .int .i64 0, .int .i64 0, .slice none 0 0, .int .i64 0, .int .i64 0, .int .i64 0, .int .i64 0, .string ⟨#[]⟩, .string ⟨#[]⟩, .string ⟨#[]⟩, .slice none 0 0] 41)
    simpa using this
  obtain ⟨d0, d1, d2, d3, d4, d5⟩ := op_cells hblk
  have Hb : Hid (Below w.heap.size w W) := hbW
  have HB1 : Hid (W.heap[w.heap.size]? = some (.cells o.cs 33 (0, 0))) := hblk
  have HB2 : Hid (W.heap[w.heap.size + 1]? = some (.cells #[.int .i64 0, .int .i64 0, .int .i64 0, .int .i64 0, .slice none 0 0, .int .i64 0, .int .i64 0, .int .i64 0, .int .i64 0, .string ⟨#[]⟩, .string ⟨#[]⟩, .string ⟨#[]⟩, .slice none 0 0] 41 (0, 0))) := hblk2
  have HS : Hid (RdI W o.sa o.sn o.sc xs) := hs.still hbW
  have hxl := hs.1
  have HC : Hid (∀ w', Below w.heap.size w w' → Calls Try.prog 60 #[.slice o.ba o.bn o.bc] w' fun e w2 => ∃ g cap, e = .returned (.slice (some ⟨g, 0, none⟩) o.bn cap) ∧ Marked w2 w'.heap.size g o.bn cap bs ∧ Below w'.heap.size w' w2) := fun w' hb' => spare_any (hb.still hb') hbn
  unfold Opx.cs at hW ⊢
  have hW1 : w.heap.size + 1 < W.heap.size := by omega
  clear hbW hblk hblk2 hb hs hWs
  go_enter Try.func36, Try.ntmps36
  go_wp2_with (first
    | (at_builtin; go_loud (refine wpList_append_rd _ rfl _ _ 31 rfl W.heap.size 3 i0 (.int .i64 0) 8 Try.underlying31 hi hz0 hz1 hz2 rfl (.slice none 0 0) 0 [] rfl (row_nil _ _ _ _) _ _ _ (xs.map (Value.int .i64)) rfl HS.out.2.1 (by simpa using hxl) (HS.out.cells) (ints_one xs) ?c1 ?c2 (Nat.le_refl _) ?_))
    | fail)
  case c1 => unfold maxLen; omega
  case c2 => omega
  intro v' w2 hown' hgrow
  have HO : Hid (w2.ownsRow W.heap.size 3 1 v' o.sn (xs.map (Value.int .i64))) := by
    show World.ownsRow _ _ _ _ _ _ _
    simpa using hown'
  have HB : Hid (Below W.heap.size W w2) := (Below.refl _ W).grown hgrow (Nat.le_refl _) (fun k hk => by simp [Value.ownBlock] at hk)
  clear hown' hgrow
  go_wp2
  go_loopw [3, 4] (fun v i wr => ∃ k : Nat, k ≤ 64 ∧ i = .int .i64 k ∧ wr.ownsRow W.heap.size 3 1 v (o.sn + k) ((xs ++ mks k).map (Value.int .i64)) ∧ Below W.heap.size W wr) (fun _ i _ => 64 - (intOf i).toNat)
  case atStart => exact ⟨0, Nat.zero_le _, rfl, by simpa [mks] using HO.out, HB.out⟩
  case round =>
    obtain ⟨k, hk, rfl, ho, hb⟩ := hrel
    by_cases hlt : k < 64
    · have HO : Hid (wr.ownsRow W.heap.size 3 1 u3 (o.sn + k) ((xs ++ mks k).map (Value.int .i64))) := ho
      have HB : Hid (Below W.heap.size W wr) := hb
      have hws := hb.size
      have i1 : (0 : Int) ≤ (k : Int) := Int.natCast_nonneg _
      have i2 : (k : Int) < 64 := by omega
      have Hmk : Hid ((xs ++ mks (k + 1)).map (Value.int .i64) = (xs ++ mks k).map (Value.int .i64) ++ [.int .i64 (700 + (k : Int))]) := by
        show _ = _
        rw [mks_succ]; simp
      generalize (xs ++ mks k).map (Value.int .i64) = T at HO Hmk
      clear ho hb
      go_wp2_with (first
        | (at_builtin; refine wpList_append_lies _ rfl _ _ 31 rfl W.heap.size 3 i0 (.int .i64 0) 1 8 Try.underlying31 hi hz0 hz1 hz2 rfl (by omega) u3 (o.sn + k) T rfl (World.ownsRow.alloc HO.out _) _ 1 1 _ rfl rfl (World.news_of_block (heap_alloc_new _ _)) (by simp [Value.oneCell']) (by omega) (by unfold maxLen; omega) (by omega) (by simp; omega) _ rfl ?_; intro g3 cap3 w3 hown3 hgrow3 hat3 hlt3)
        | fail)
      have hb3 : Below W.heap.size W w3 := (balloc HB.out).grown hgrow3 (by simp; omega) (fun q hq => (World.ownsRow.lt HO.out q hq).1)
      clear hgrow3 hat3
      first
        | exact ⟨⟨k + 1, by omega, by go_num, by rw [Hmk.out, ← Nat.add_assoc]; simpa using hown3, hb3⟩, by simp [intOf]; omega⟩
        | (go_roundw
           case rel => exact ⟨k + 1, by omega, by go_num, by rw [Hmk.out, ← Nat.add_assoc]; simpa using hown3, hb3⟩
           case measure => simp [intOf]; omega)
    · obtain rfl : k = 64 := by omega
      rcases ho.2 with ⟨h1, h2⟩ | ⟨gs, cs, cur, hv, hg1, hg2, hnc, _⟩
      · omega
      · subst hv
        have i1 : (0 : Int) ≤ (o.sn : Int) := Int.natCast_nonneg _
        have i2 : (o.sn : Int) ≤ (cs : Int) := by omega
        have HO : Hid (MarkedI wr W.heap.size gs o.sn cs xs) := ho
        have HBw : Hid (Below W.heap.size W wr) := hb
        have HBx : Hid (Below w.heap.size w wr) := bstep Hb.out hb
        obtain ⟨d0, d1, d2, d3, d4, d5⟩ := op_cells ((hb.block _ (by omega)).trans HB1.out)
        have HZ : Hid (wr.heap[w.heap.size + 1]? = some (.cells #[.int .i64 0, .int .i64 0, .int .i64 0, .int .i64 0, .slice none 0 0, .int .i64 0, .int .i64 0, .int .i64 0, .int .i64 0, .string ⟨#[]⟩, .string ⟨#[]⟩, .string ⟨#[]⟩, .slice none 0 0] 41 (0, 0))) := (hb.block _ (by omega)).trans HB2.out
        have hws := hb.size
        have hwk : IntKind.i64.wrap (o.k - 20) = o.k - 20 := wrap_id (by omega) (by omega)
        clear ho hg2 hb
        go_wp2
        refine wp_region_held_drew (S := (fun w' => w'.cell? ⟨w.heap.size, 0, none⟩ = some (.int .i64 o.k) ∧ w'.cell? ⟨w.heap.size, 1, none⟩ = some (.int .i64 o.p) ∧ w'.cell? ⟨w.heap.size, 2, none⟩ = some (.int .i64 o.q) ∧ w'.cell? ⟨w.heap.size, 3, none⟩ = some (.int .i64 o.n) ∧ w'.cell? ⟨w.heap.size, 4, none⟩ = some (.slice o.ba o.bn o.bc) ∧ w'.cell? ⟨w.heap.size, 5, none⟩ = some (.slice o.sa o.sn o.sc))) (by kernel_rfl) ⟨d0, d1, d2, d3, d4, d5⟩ (fun hHeld => ?_)
        simp only [Act.put, List.size_toArray, List.length_cons, List.length_nil, Nat.zero_add]
        refine wpAnyH_take (i := 0) (v := .pointer (some ⟨w.heap.size, 0, none⟩)) rfl (by kernel_rfl) (by kernel_rfl) (by kernel_rfl) (fun _ _ _ h => h) (Or.inl ⟨by rfl, fun w' hS => by go_simp⟩) hHeld ?_
        simp only [Act.put, List.getElem_toArray, List.getElem_cons_zero, List.getElem_cons_succ, List.setIfInBounds_toArray, List.set_cons_zero, List.set_cons_succ]
        refine wpAnyH_take (i := 1) (v := .int .i64 o.k) rfl (by kernel_rfl) (by kernel_rfl) (by kernel_rfl) (fun _ _ _ h => h) (Or.inl ⟨by rfl, fun w' hS => by (obtain ⟨s0, s1, s2, s3, s4, s5⟩ := hS; go_simp)⟩) hHeld ?_
        simp only [Act.put, List.getElem_toArray, List.getElem_cons_zero, List.getElem_cons_succ, List.setIfInBounds_toArray, List.set_cons_zero, List.set_cons_succ]
        refine wpAnyH_take (i := 2) (v := .int .i64 (o.k - 20)) rfl (by kernel_rfl) (by kernel_rfl) (by kernel_rfl) (fun _ _ _ h => h) (Or.inl ⟨by rfl, fun w' hS => by go_simp⟩) hHeld ?_
        simp only [Act.put, List.getElem_toArray, List.getElem_cons_zero, List.getElem_cons_succ, List.setIfInBounds_toArray, List.set_cons_zero, List.set_cons_succ]
        refine wpAnyH_take (i := 3) (v := .pointer (some ⟨w.heap.size, 1, none⟩)) rfl (by kernel_rfl) (by kernel_rfl) (by kernel_rfl) (fun _ _ _ h => h) (Or.inl ⟨by rfl, fun w' hS => by go_simp⟩) hHeld ?_
        simp only [Act.put, List.getElem_toArray, List.getElem_cons_zero, List.getElem_cons_succ, List.setIfInBounds_toArray, List.set_cons_zero, List.set_cons_succ]
        refine wpAnyH_take (i := 4) (v := .int .i64 o.p) rfl (by kernel_rfl) (by kernel_rfl) (by kernel_rfl) (fun _ _ _ h => h) (Or.inl ⟨by rfl, fun w' hS => by (obtain ⟨s0, s1, s2, s3, s4, s5⟩ := hS; go_simp)⟩) hHeld ?_
        simp only [Act.put, List.getElem_toArray, List.getElem_cons_zero, List.getElem_cons_succ, List.setIfInBounds_toArray, List.set_cons_zero, List.set_cons_succ]
        refine wpAnyH_take (i := 5) (v := .pointer (some ⟨w.heap.size, 2, none⟩)) rfl (by kernel_rfl) (by kernel_rfl) (by kernel_rfl) (fun _ _ _ h => h) (Or.inl ⟨by rfl, fun w' hS => by go_simp⟩) hHeld ?_
        simp only [Act.put, List.getElem_toArray, List.getElem_cons_zero, List.getElem_cons_succ, List.setIfInBounds_toArray, List.set_cons_zero, List.set_cons_succ]
        refine wpAnyH_take (i := 6) (v := .int .i64 o.q) rfl (by kernel_rfl) (by kernel_rfl) (by kernel_rfl) (fun _ _ _ h => h) (Or.inl ⟨by rfl, fun w' hS => by (obtain ⟨s0, s1, s2, s3, s4, s5⟩ := hS; go_simp)⟩) hHeld ?_
        simp only [Act.put, List.getElem_toArray, List.getElem_cons_zero, List.getElem_cons_succ, List.setIfInBounds_toArray, List.set_cons_zero, List.set_cons_succ]
        refine wpAnyH_take (i := 7) (v := .pointer (some ⟨w.heap.size, 3, none⟩)) rfl (by kernel_rfl) (by kernel_rfl) (by kernel_rfl) (fun _ _ _ h => h) (Or.inl ⟨by rfl, fun w' hS => by go_simp⟩) hHeld ?_
        simp only [Act.put, List.getElem_toArray, List.getElem_cons_zero, List.getElem_cons_succ, List.setIfInBounds_toArray, List.set_cons_zero, List.set_cons_succ]
        refine wpAnyH_take (i := 8) (v := .int .i64 o.n) rfl (by kernel_rfl) (by kernel_rfl) (by kernel_rfl) (fun _ _ _ h => h) (Or.inl ⟨by rfl, fun w' hS => by (obtain ⟨s0, s1, s2, s3, s4, s5⟩ := hS; go_simp)⟩) hHeld ?_
        simp only [Act.put, List.getElem_toArray, List.getElem_cons_zero, List.getElem_cons_succ, List.setIfInBounds_toArray, List.set_cons_zero, List.set_cons_succ]
        refine wpAnyH_take (i := 9) (v := .pointer (some ⟨w.heap.size, 4, none⟩)) rfl (by kernel_rfl) (by kernel_rfl) (by kernel_rfl) (fun _ _ _ h => h) (Or.inl ⟨by rfl, fun w' hS => by go_simp⟩) hHeld ?_
        simp only [Act.put, List.getElem_toArray, List.getElem_cons_zero, List.getElem_cons_succ, List.setIfInBounds_toArray, List.set_cons_zero, List.set_cons_succ]
        refine wpAnyH_take (i := 10) (v := .slice o.ba o.bn o.bc) rfl (by kernel_rfl) (by kernel_rfl) (by kernel_rfl) (fun _ _ _ h => h) (Or.inl ⟨by rfl, fun w' hS => by (obtain ⟨s0, s1, s2, s3, s4, s5⟩ := hS; go_simp)⟩) hHeld ?_
        simp only [Act.put, List.getElem_toArray, List.getElem_cons_zero, List.getElem_cons_succ, List.setIfInBounds_toArray, List.set_cons_zero, List.set_cons_succ]
        refine wpAnyH_take (i := 12) (v := .slice (some ⟨gs, 0, none⟩) (o.sn + 64) cs) rfl (by kernel_rfl) (by kernel_rfl) (by kernel_rfl) (fun _ _ _ h => h) (Or.inl ⟨by rfl, fun w' hS => by go_simp⟩) hHeld ?_
        simp only [Act.put, List.getElem_toArray, List.getElem_cons_zero, List.getElem_cons_succ, List.setIfInBounds_toArray, List.set_cons_zero, List.set_cons_succ]
        refine wpAnyH_take (i := 13) (v := .pointer (some ⟨w.heap.size, 5, none⟩)) rfl (by kernel_rfl) (by kernel_rfl) (by kernel_rfl) (fun _ _ _ h => h) (Or.inl ⟨by rfl, fun w' hS => by go_simp⟩) hHeld ?_
        simp only [Act.put, List.getElem_toArray, List.getElem_cons_zero, List.getElem_cons_succ, List.setIfInBounds_toArray, List.set_cons_zero, List.set_cons_succ]
        refine wpAnyH_take (i := 14) (v := .slice o.sa o.sn o.sc) rfl (by kernel_rfl) (by kernel_rfl) (by kernel_rfl) (fun _ _ _ h => h) (Or.inl ⟨by rfl, fun w' hS => by (obtain ⟨s0, s1, s2, s3, s4, s5⟩ := hS; go_simp)⟩) hHeld ?_
        simp only [Act.put, List.getElem_toArray, List.getElem_cons_zero, List.getElem_cons_succ, List.setIfInBounds_toArray, List.set_cons_zero, List.set_cons_succ]
        refine wpAnyH_take (i := 15) (v := .int .i64 (o.sn : Int)) rfl (by kernel_rfl) (by kernel_rfl) (by kernel_rfl) (fun _ _ _ h => h) (Or.inl ⟨by rfl, fun w' hS => by go_simp⟩) hHeld ?_
        simp only [Act.put, List.getElem_toArray, List.getElem_cons_zero, List.getElem_cons_succ, List.setIfInBounds_toArray, List.set_cons_zero, List.set_cons_succ]
        refine wpAnyH_take (i := 16) (v := .slice (some ⟨gs, 0, none⟩) o.sn cs) rfl (by kernel_rfl) (by kernel_rfl) (by kernel_rfl) (fun _ _ _ h => h) (Or.inl ⟨by rfl, fun w' hS => by go_simp⟩) hHeld ?_
        simp only [Act.put, List.getElem_toArray, List.getElem_cons_zero, List.getElem_cons_succ, List.setIfInBounds_toArray, List.set_cons_zero, List.set_cons_succ]
        refine wpAnyH_ready (rs := [11]) (by kernel_rfl) (by simp) ?_
        refine AllReadyH.cons rfl (fun K hK => ?_) AllReadyH.nil
        go_simp
        refine (HC.out _ (by repeat (first | exact HBx.out | apply Below.drew))).mono ?_
        rintro e w2 ⟨gb, cb, rfl, hmk, hb2⟩
        have B2 : Below wr.heap.size wr w2 := bstep (by repeat (first | exact Below.refl _ _ | apply Below.drew)) hb2
        have t0 := below_at B2 d0
        have t1 := below_at B2 d1
        have t2 := below_at B2 d2
        have t3 := below_at B2 d3
        have t4 := below_at B2 d4
        have t5 := below_at B2 d5
        refine hK.out _ _ ⟨t0, t1, t2, t3, t4, t5⟩ (fun hHeld => ?_)
        clear hK K
        have z0 := (B2.block _ (by omega)).trans HZ.out
        have c0 : w2.cell? ⟨w.heap.size + 1, 0, none⟩ = some (.int .i64 0) := blk_cell z0 0
        have f0 : w2.frozen? ⟨w.heap.size + 1, 0, none⟩ = false := frozen_of_row w2 _ 0 _ _ z0
        have c1 : w2.cell? ⟨w.heap.size + 1, 1, none⟩ = some (.int .i64 0) := blk_cell z0 1
        have f1 : w2.frozen? ⟨w.heap.size + 1, 1, none⟩ = false := frozen_of_row w2 _ 1 _ _ z0
        have c2 : w2.cell? ⟨w.heap.size + 1, 2, none⟩ = some (.int .i64 0) := blk_cell z0 2
        have f2 : w2.frozen? ⟨w.heap.size + 1, 2, none⟩ = false := frozen_of_row w2 _ 2 _ _ z0
        have c3 : w2.cell? ⟨w.heap.size + 1, 3, none⟩ = some (.int .i64 0) := blk_cell z0 3
        have f3 : w2.frozen? ⟨w.heap.size + 1, 3, none⟩ = false := frozen_of_row w2 _ 3 _ _ z0
        have c4 : w2.cell? ⟨w.heap.size + 1, 4, none⟩ = some (.slice none 0 0) := blk_cell z0 4
        have f4 : w2.frozen? ⟨w.heap.size + 1, 4, none⟩ = false := frozen_of_row w2 _ 4 _ _ z0
        have c5 : w2.cell? ⟨w.heap.size + 1, 5, none⟩ = some (.int .i64 0) := blk_cell z0 5
        have f5 : w2.frozen? ⟨w.heap.size + 1, 5, none⟩ = false := frozen_of_row w2 _ 5 _ _ z0
        have c6 : w2.cell? ⟨w.heap.size + 1, 6, none⟩ = some (.int .i64 0) := blk_cell z0 6
        have f6 : w2.frozen? ⟨w.heap.size + 1, 6, none⟩ = false := frozen_of_row w2 _ 6 _ _ z0
        have c7 : w2.cell? ⟨w.heap.size + 1, 7, none⟩ = some (.int .i64 0) := blk_cell z0 7
        have f7 : w2.frozen? ⟨w.heap.size + 1, 7, none⟩ = false := frozen_of_row w2 _ 7 _ _ z0
        have c8 : w2.cell? ⟨w.heap.size + 1, 8, none⟩ = some (.int .i64 0) := blk_cell z0 8
        have f8 : w2.frozen? ⟨w.heap.size + 1, 8, none⟩ = false := frozen_of_row w2 _ 8 _ _ z0
        have c9 : w2.cell? ⟨w.heap.size + 1, 9, none⟩ = some (.string ⟨#[]⟩) := blk_cell z0 9
        have f9 : w2.frozen? ⟨w.heap.size + 1, 9, none⟩ = false := frozen_of_row w2 _ 9 _ _ z0
        have c10 : w2.cell? ⟨w.heap.size + 1, 10, none⟩ = some (.string ⟨#[]⟩) := blk_cell z0 10
        have f10 : w2.frozen? ⟨w.heap.size + 1, 10, none⟩ = false := frozen_of_row w2 _ 10 _ _ z0
        have c11 : w2.cell? ⟨w.heap.size + 1, 11, none⟩ = some (.string ⟨#[]⟩) := blk_cell z0 11
        have f11 : w2.frozen? ⟨w.heap.size + 1, 11, none⟩ = false := frozen_of_row w2 _ 11 _ _ z0
        have c12 : w2.cell? ⟨w.heap.size + 1, 12, none⟩ = some (.slice none 0 0) := blk_cell z0 12
        have f12 : w2.frozen? ⟨w.heap.size + 1, 12, none⟩ = false := frozen_of_row w2 _ 12 _ _ z0
        refine wpAnyH_take (i := 17) (v := .agg #[.int .i64 (o.k - 20), .int .i64 o.p, .int .i64 o.q, .int .i64 o.n, .slice (some ⟨gb, 0, none⟩) o.bn cb, .int .i64 0, .int .i64 0, .int .i64 0, .int .i64 0, .string ⟨#[]⟩, .string ⟨#[]⟩, .string ⟨#[]⟩, .slice (some ⟨gs, 0, none⟩) o.sn cs]) rfl (by kernel_rfl) (by kernel_rfl) (by kernel_rfl) (fun _ _ _ h => h) (Or.inl ⟨by rfl, fun w' hS => by go_simp⟩) hHeld ?_
        simp only [Act.put, List.getElem_toArray, List.getElem_cons_zero, List.getElem_cons_succ, List.setIfInBounds_toArray, List.set_cons_zero, List.set_cons_succ]
        refine wpAnyH_ready (rs := [18]) (by kernel_rfl) (by simp) ?_
        refine AllReadyH.cons rfl (fun K hK => ?_) AllReadyH.nil
        go_simp
        have hfar : ∀ {i : Nat} {u : Value}, w2.cell? ⟨w.heap.size, i, none⟩ = some u → w2.cell? ⟨w.heap.size, i, none⟩ = some u := fun h => h
        refine hK.out _ _ ⟨?_, ?_, ?_, ?_, ?_, ?_⟩ (fun hHeld => ?_)
        iterate 6 (iterate 13 refine set_far ?_ (by omega)); first | exact t0 | exact t1 | exact t2 | exact t3 | exact t4 | exact t5
        clear hK K
        refine wpAnyH_done (by kernel_rfl) ?_ _
        clear hHeld
        rw [put13_eq]
        have zz := put13_blk (.int .i64 (o.k - 20)) (.int .i64 o.p) (.int .i64 o.q) (.int .i64 o.n) (.slice (some ⟨gb, 0, none⟩) o.bn cb) (.int .i64 0) (.int .i64 0) (.int .i64 0) (.int .i64 0) (.string ⟨#[]⟩) (.string ⟨#[]⟩) (.string ⟨#[]⟩) (.slice (some ⟨gs, 0, none⟩) o.sn cs) z0
        have kp := put13_kept (W := w2) (w.heap.size + 1) (.int .i64 (o.k - 20)) (.int .i64 o.p) (.int .i64 o.q) (.int .i64 o.n) (.slice (some ⟨gb, 0, none⟩) o.bn cb) (.int .i64 0) (.int .i64 0) (.int .i64 0) (.int .i64 0) (.string ⟨#[]⟩) (.string ⟨#[]⟩) (.string ⟨#[]⟩) (.slice (some ⟨gs, 0, none⟩) o.sn cs)
        have hX1 : Marked (put13 w2 (w.heap.size + 1) (.int .i64 (o.k - 20)) (.int .i64 o.p) (.int .i64 o.q) (.int .i64 o.n) (.slice (some ⟨gb, 0, none⟩) o.bn cb) (.int .i64 0) (.int .i64 0) (.int .i64 0) (.int .i64 0) (.string ⟨#[]⟩) (.string ⟨#[]⟩) (.string ⟨#[]⟩) (.slice (some ⟨gs, 0, none⟩) o.sn cs)) w.heap.size gb o.bn cb bs := kp.owns (own_lower hmk (by have := HBx.out.size; simpa using this)) (fun j hj e => by have := (World.ownsRow.lt hmk j hj).1; simp at this; omega)
        have hX2 : MarkedI (put13 w2 (w.heap.size + 1) (.int .i64 (o.k - 20)) (.int .i64 o.p) (.int .i64 o.q) (.int .i64 o.n) (.slice (some ⟨gb, 0, none⟩) o.bn cb) (.int .i64 0) (.int .i64 0) (.int .i64 0) (.int .i64 0) (.string ⟨#[]⟩) (.string ⟨#[]⟩) (.string ⟨#[]⟩) (.slice (some ⟨gs, 0, none⟩) o.sn cs)) w.heap.size gs o.sn cs xs := kp.owns (own_lower (own_still HO.out B2) (by omega)) (fun j hj e => by have := (World.ownsRow.lt HO.out j hj).1; omega)
        have hX3 : Below w.heap.size w (put13 w2 (w.heap.size + 1) (.int .i64 (o.k - 20)) (.int .i64 o.p) (.int .i64 o.q) (.int .i64 o.n) (.slice (some ⟨gb, 0, none⟩) o.bn cb) (.int .i64 0) (.int .i64 0) (.int .i64 0) (.int .i64 0) (.string ⟨#[]⟩) (.string ⟨#[]⟩) (.string ⟨#[]⟩) (.slice (some ⟨gs, 0, none⟩) o.sn cs)) := (bstep HBx.out B2).trans (kp.below (by have := HBx.out.size; have := B2.size; omega) (fun j hj e => by omega))
        generalize put13 w2 (w.heap.size + 1) (.int .i64 (o.k - 20)) (.int .i64 o.p) (.int .i64 o.q) (.int .i64 o.n) (.slice (some ⟨gb, 0, none⟩) o.bn cb) (.int .i64 0) (.int .i64 0) (.int .i64 0) (.int .i64 0) (.string ⟨#[]⟩) (.string ⟨#[]⟩) (.string ⟨#[]⟩) (.slice (some ⟨gs, 0, none⟩) o.sn cs) = X at zz hX1 hX2 hX3 ⊢
        have q0 := blk_cell zz 0
        have q1 := blk_cell zz 1
        have q2 := blk_cell zz 2
        have q3 := blk_cell zz 3
        have q4 := blk_cell zz 4
        have q5 := blk_cell zz 5
        have q6 := blk_cell zz 6
        have q7 := blk_cell zz 7
        have q8 := blk_cell zz 8
        have q9 := blk_cell zz 9
        have q10 := blk_cell zz 10
        have q11 := blk_cell zz 11
        have q12 := blk_cell zz 12
        simp only [List.getElem?_toArray, List.getElem?_cons_zero, List.getElem?_cons_succ] at q0 q1 q2 q3 q4 q5 q6 q7 q8 q9 q10 q11 q12
        clear z0 c0 c1 c2 c3 c4 c5 c6 c7 c8 c9 c10 c11 c12 f0 f1 f2 f3 f4 f5 f6 f7 f8 f9 f10 f11 f12 t0 t1 t2 t3 t4 t5 d0 d1 d2 d3 d4 d5 zz kp
        go_wp2
        exact bodyPost_ret (v := .agg #[.int .i64 (o.k - 20), .int .i64 o.p, .int .i64 o.q, .int .i64 o.n, .slice (some ⟨gb, 0, none⟩) o.bn cb, .int .i64 0, .int .i64 0, .int .i64 0, .int .i64 0, .string ⟨#[]⟩, .string ⟨#[]⟩, .string ⟨#[]⟩, .slice (some ⟨gs, 0, none⟩) o.sn cs]) (by simp [results, Try.results36, go_sem, q0, q1, q2, q3, q4, q5, q6, q7, q8, q9, q10, q11, q12]) rfl ⟨gb, cb, gs, cs, rfl, hX1, hX2, hX3⟩
end
end Go.Proofs.Ythogcanfinjfdaa.Et
namespace Go.Proofs.Ythogcanfinjfdaa.Et
open Go.RowKit Go.Maps
set_option linter.unusedVariables false
set_option linter.unusedSimpArgs false
set_option maxRecDepth 100000
section
variable {E E' : En} {R R' : Rn} {w w' w1 w2 w3 : World} {B K m : Nat}
def PE (fE : Nat) (aE : Array Value) (E : En) (w : World) (B K : Nat) (X : Value) (C : En → Prop) : Prop :=
  ∀ w', Below w.heap.size w w' → Calls Try.prog fE aE w' fun e w1 => e = .returned X ∧ ∃ E1 m1, Step w' w1 E E1 B m1 ∧ m1 ≤ 256 * (K + 1) ∧ C E1
def PR (fR : Nat) (aR : Array Value) (R : Rn) (w : World) (B : Nat) (X : Value) (D : Rn → Prop) : Prop :=
  ∀ w', R.Ok w' B → B ≤ w'.heap.size → Below B w w' → Calls Try.prog fR aR w' fun e w1 => e = .returned X ∧ ∃ R1, Rtep w' w1 R R1 B ∧ D R1
def Pair (fE fR : Nat) (aE aR : Array Value) (E : En) (R : Rn) (w : World) (B K : Nat) (X : Value) : Prop :=
  ∀ w', Below w.heap.size w w' → Calls Try.prog fE aE w' fun e w1 => e = .returned X ∧ Kept w' w1 E.own ∧
    ∀ w2, Below w1.heap.size w1 w2 → Calls Try.prog fR aR w2 fun e w3 => e = .returned X ∧ Kept w2 w3 R.own ∧ ∃ E' R', Dtep w' w3 E E' R R' B K
theorem Duo.low (h : Duo E R w B K) (hb : Below w.heap.size w w') : Below B w w' := hb.mono h.hB
theorem Step.low (s : Step w w1 E E' B m) (hE : E.Ok w B m) (hB : B ≤ w.heap.size) : Below B w w1 := s.kept.below hB (fun k hk ho => by have := hE.geOwn ho; omega)
theorem pair_of {fE fR : Nat} {aE aR : Array Value} {X : Value} {C : En → Prop} {D : Rn → Prop} (h : Duo E R w B K) (he : PE fE aE E w B K X C) (hr : PR fR aR R w B X D) (hs : ∀ E1 R1, C E1 → D R1 → Sim E1 R1 (K + 1) ∧ E1.b = E.b ∧ R1.b = R.b) : Pair fE fR aE aR E R w B K X := by
  intro w' hb
  refine (he w' hb).mono ?_
  rintro e w1 ⟨rfl, E1, m1, st, hm, hc⟩
  refine ⟨rfl, st.kept, fun w2 hb2 => ?_⟩
  have hD := h.still hb
  have st2 := st.post hb2
  have hlow : Below B w w2 := (h.low hb).trans (st2.kept.below hD.hB (fun k hk ho => by have := hD.e.geOwn ho; omega))
  refine (hr w2 (hD.rAt st2) (Nat.le_trans hD.hB st2.kept.size) hlow).mono ?_
  rintro e w3 ⟨rfl, R1, rt, hd⟩
  exact ⟨rfl, rt.kept, E1, R1, hD.done st2 rt (hs E1 R1 hc hd) hm⟩
theorem Step.none (h : E.Ok w B m) (hb : Below w.heap.size w w') : Step w w' E E B m := (Step.same h).post hb
theorem Rtep.none (h : R.Ok w B) (hb : Below w.heap.size w w') : Rtep w w' R R B := (Rtep.same h).post hb
theorem pe_none {fE : Nat} {aE : Array Value} {X : Value} (h : Duo E R w B K) (hc : ∀ w', E.Ok w' B (256 * K) → Calls Try.prog fE aE w' fun e w1 => e = .returned X ∧ Below w'.heap.size w' w1) : PE fE aE E w B K X (fun E1 => E1 = E) := fun w' hb => (hc w' (h.still hb).e).mono fun e w1 ⟨x1, x2⟩ => ⟨x1, E, 256 * K, Step.none (h.still hb).e x2, by omega, rfl⟩
theorem pr_none {fR : Nat} {aR : Array Value} {X : Value} (hc : ∀ w', R.Ok w' B → Calls Try.prog fR aR w' fun e w1 => e = .returned X ∧ Below w'.heap.size w' w1) : PR fR aR R w B X (fun R1 => R1 = R) := fun w' hr hB hl => (hc w' hr).mono fun e w1 ⟨x1, x2⟩ => ⟨x1, R, Rtep.none hr x2, rfl⟩
theorem pair_none {fE fR : Nat} {aE aR : Array Value} {X : Value} (h : Duo E R w B K) (he : ∀ w', E.Ok w' B (256 * K) → Calls Try.prog fE aE w' fun e w1 => e = .returned X ∧ Below w'.heap.size w' w1) (hr : ∀ w', R.Ok w' B → Calls Try.prog fR aR w' fun e w1 => e = .returned X ∧ Below w'.heap.size w' w1) : Pair fE fR aE aR E R w B K X :=
  pair_of h (pe_none h he) (pr_none hr) (fun E1 R1 hc hd => by subst hc hd; exact ⟨h.s.same, rfl, rfl⟩)
theorem calls_same {f : Nat} {a : Array Value} {X : Value} (h : Calls Try.prog f a w fun e w' => e = .returned X ∧ w = w') : Calls Try.prog f a w fun e w' => e = .returned X ∧ Below w.heap.size w w' := h.mono fun e w1 ⟨x1, x2⟩ => ⟨x1, by subst x2; exact Below.refl _ _⟩
theorem Duo.none (h : Duo E R w B K) (hb : Below w.heap.size w w') : Dtep w w' E E R R B K := (h.done (Step.same h.e) (Rtep.same h.r) ⟨h.s.same, rfl, rfl⟩ (by omega)).post hb
theorem Sim.nq (s : Sim E R K) (p : Int) : rN R p = isN E p := by unfold rN isN; rw [s.nn]
theorem Sim.pq (s : Sim E R K) (p q : Int) : rP R p q = isP E p q := by unfold rP isP; rw [s.nq, s.nq]
theorem Sim.ck (s : Sim E R K) (p : Int) : rCk R p = ckUp E p := by
  unfold rCk ckUp
  rw [s.nq]
  cases h : isN E p with
  | false => rfl
  | true =>
    obtain ⟨h0, h1⟩ := isN_true h
    rw [(s.nod p.toNat (by omega)).1]
theorem Sim.rst (s : Sim E R K) (p : Int) : rRst R p = rstE E p := by
  unfold rRst rstE
  rw [s.nq]
  cases h : isN E p with
  | false => rfl
  | true =>
    obtain ⟨h0, h1⟩ := isN_true h
    rw [(s.nod p.toNat (by omega)).1]
def aN (b : Nat) (p : Int) : Array Value := #[.pointer (some ⟨b, 0, none⟩), .int .i64 p]
theorem rstE_zero {p : Int} (h : rstE E p = 0) : ∃ k : Nat, p = k ∧ k < E.nn ∧ E.up k = false := by
  unfold rstE at h
  split at h
  · next hn =>
    obtain ⟨h0, h1⟩ := isN_true hn
    split at h
    · omega
    · next hu => exact ⟨p.toNat, by omega, by omega, by simpa using hu⟩
  · omega
theorem pair_tick (h : Duo E R w B K) (p : Int) : ∃ x y, Pair 34 76 (aN E.b p) (aN R.b p) E R w B K (.tuple #[.int .i64 x, .int .i64 y]) := by
  by_cases hc : ckUp E p = 0
  · obtain ⟨k, rfl, hk, hu⟩ := ckUp_zero hc
    refine ⟨wrap64 (E.tick k + 1), 0, pair_of h (C := fun E1 => E1 = { E with tick := upd1 E.tick k (wrap64 (E.tick k + 1)) }) (D := fun R1 => R1 = { R with tick := upd1 R.tick k (wrap64 (R.tick k + 1)) }) ?_ ?_ ?_⟩
    · exact fun w' hb => (tick_ok (h.still hb).e k hk hu).mono fun e w1 ⟨x1, x2⟩ => ⟨x1, _, _, x2, by omega, rfl⟩
    · intro w' hr hB hl
      rw [← (h.s.nod k hk).2.2]
      exact (rtick_ok hr k (by rw [h.s.nn]; exact hk) (by rw [(h.s.nod k hk).1]; exact hu)).mono fun e w1 ⟨x1, x2⟩ => ⟨x1, _, x2, rfl⟩
    · rintro E1 R1 rfl rfl
      exact ⟨h.s.tick k hk, rfl, rfl⟩
  · exact ⟨0, ckUp E p, pair_none h (fun w' he => calls_same (tick_no he p hc)) (fun w' hr => by rw [← h.s.ck]; exact calls_same (rtick_no hr p (by rw [h.s.ck]; exact hc)))⟩
theorem pair_crash (h : Duo E R w B K) (p : Int) : ∃ x, Pair 35 77 (aN E.b p) (aN R.b p) E R w B K (.int .i64 x) := by
  by_cases hc : ckUp E p = 0
  · obtain ⟨k, rfl, hk, hu⟩ := ckUp_zero hc
    refine ⟨0, pair_of h (C := fun E1 => E1 = { E with up := upd1 E.up k false }) (D := fun R1 => R1 = { R with up := upd1 R.up k false }) ?_ ?_ ?_⟩
    · exact fun w' hb => (crash_ok (h.still hb).e k hk hu).mono fun e w1 ⟨x1, x2⟩ => ⟨x1, _, _, x2, by omega, rfl⟩
    · exact fun w' hr hB hl => (rcrash_ok hr k (by rw [h.s.nn]; exact hk) (by rw [(h.s.nod k hk).1]; exact hu)).mono fun e w1 ⟨x1, x2⟩ => ⟨x1, _, x2, rfl⟩
    · rintro E1 R1 rfl rfl
      exact ⟨h.s.crash k, rfl, rfl⟩
  · exact ⟨ckUp E p, pair_none h (fun w' he => calls_same (crash_no he p hc)) (fun w' hr => by rw [← h.s.ck]; exact calls_same (rcrash_no hr p (by rw [h.s.ck]; exact hc)))⟩
theorem pair_restart (h : Duo E R w B K) (p : Int) : ∃ x y, Pair 11 78 (aN E.b p) (aN R.b p) E R w B K (.tuple #[.int .i64 x, .int .i64 y]) := by
  by_cases hc : rstE E p = 0
  · obtain ⟨k, rfl, hk, hu⟩ := rstE_zero hc
    refine ⟨wrap64 (E.inc k + 1), 0, pair_of h (C := fun E1 => E1 = { E with up := upd1 E.up k true, inc := upd1 E.inc k (wrap64 (E.inc k + 1)), tick := upd1 E.tick k 0 }) (D := fun R1 => R1 = { R with up := upd1 R.up k true, inc := upd1 R.inc k (wrap64 (R.inc k + 1)), tick := upd1 R.tick k 0 }) ?_ ?_ ?_⟩
    · exact fun w' hb => (restart_ok (h.still hb).e k hk hu).mono fun e w1 ⟨x1, x2⟩ => ⟨x1, _, _, x2, by omega, rfl⟩
    · intro w' hr hB hl
      rw [← (h.s.nod k hk).2.1]
      exact (rrestart_ok hr k (by rw [h.s.nn]; exact hk) (by rw [(h.s.nod k hk).1]; exact hu)).mono fun e w1 ⟨x1, x2⟩ => ⟨x1, _, x2, rfl⟩
    · rintro E1 R1 rfl rfl
      exact ⟨h.s.restart k hk, rfl, rfl⟩
  · exact ⟨0, rstE E p, pair_none h (fun w' he => calls_same (restart_no he p hc)) (fun w' hr => by rw [← h.s.rst]; exact calls_same (rrestart_no hr p (by rw [h.s.rst]; exact hc)))⟩
end
end Go.Proofs.Ythogcanfinjfdaa.Et
namespace Go.Proofs.Ythogcanfinjfdaa.Et
open Go.RowKit Go.Maps
set_option linter.unusedVariables false
set_option linter.unusedSimpArgs false
set_option maxRecDepth 100000
section
variable {E E' : En} {R R' : Rn} {w w' w1 w2 w3 : World} {B K m : Nat}
theorem kcell {W w1 : World} {P : Nat → Prop} {k i : Nat} {v : Value} (hk : Kept W w1 P) (hc : W.cell? ⟨k, i, none⟩ = some v) (hp : ¬ P k) : w1.cell? ⟨k, i, none⟩ = some v :=
  (World.cell?_of_block (w := W) (hk.block k (World.block_lt_of_cell? W _ hc) hp)).trans hc
theorem Sim.upq (s : Sim E R K) (p : Int) : (rN R p && R.up p.toNat) = (isN E p && E.up p.toNat) := by
  rw [s.nq]
  cases hn : isN E p with
  | false => rfl
  | true =>
    obtain ⟨h0, h1⟩ := isN_true hn
    rw [(s.nod p.toNat (by omega)).1]
theorem Sim.incq (s : Sim E R K) (p : Int) : (if rN R p then R.inc p.toNat else 0) = (if isN E p then E.inc p.toNat else 0) := by
  rw [s.nq]
  cases hn : isN E p with
  | false => rfl
  | true =>
    obtain ⟨h0, h1⟩ := isN_true hn
    rw [(s.nod p.toNat (by omega)).2.1]
theorem Sim.tickq (s : Sim E R K) (p : Int) : (if rN R p then R.tick p.toNat else 0) = (if isN E p then E.tick p.toNat else 0) := by
  rw [s.nq]
  cases hn : isN E p with
  | false => rfl
  | true =>
    obtain ⟨h0, h1⟩ := isN_true hn
    rw [(s.nod p.toNat (by omega)).2.2]
theorem Sim.openq (s : Sim E R K) (p q : Int) : (rP R p q && !R.shut p.toNat q.toNat) = (isP E p q && !E.cut p.toNat q.toNat) := by
  rw [s.pq]
  cases hn : isP E p q with
  | false => rfl
  | true =>
    obtain ⟨a, b, rfl, rfl, ha, hb, hab⟩ := isP_true hn
    rw [(s.pat _ _ (by simpa using ha) (by simpa using hb) (by simpa using hab)).1]
theorem Sim.delayq (s : Sim E R K) (p q : Int) : (if rP R p q then R.slow p.toNat q.toNat else 0) = (if isP E p q then E.dl p.toNat q.toNat else 0) := by
  rw [s.pq]
  cases hn : isP E p q with
  | false => rfl
  | true =>
    obtain ⟨a, b, rfl, rfl, ha, hb, hab⟩ := isP_true hn
    rw [(s.pat _ _ (by simpa using ha) (by simpa using hb) (by simpa using hab)).2]

set_option maxHeartbeats 400000 in
theorem nodes_up (h : Duo E R w B K) (o : Opx) (hk : o.k = 1) : Calls Try.prog 56 #[.pointer (some ⟨E.b, 0, none⟩), .pointer (some ⟨R.b, 0, none⟩), .agg o.cs] w fun e w' => e = .returned (.bool true) ∧ ∃ E' R', Dtep w w' E E' R R' B K := by
  generalize hW : w.alloc (.cells o.cs 33) = W
  have hbW : Below w.heap.size w W := by rw [← hW]; exact balloc (Below.refl _ w)
  have hblk : W.heap[w.heap.size]? = some (.cells o.cs 33 (0, 0)) := by rw [← hW]; exact heap_alloc_new w _
  have hWs : w.heap.size < W.heap.size := lt_heap hblk
  obtain ⟨d0, d1, d2, d3, d4, d5⟩ := op_cells hblk
  have Hb : Hid (Below w.heap.size w W) := hbW
  have Hblk : Hid (W.heap[w.heap.size]? = some (.cells o.cs 33 (0, 0))) := hblk
  have Hd : Hid (Duo E R w B K) := h
  have HnE : Hid (¬ E.own w.heap.size) := fun e => by have := h.e.ltOwn e; omega
  have HnR : Hid (¬ R.own w.heap.size) := fun e => by have := h.r.ltOwn e; omega
  have HA : Hid (∀ w', Below W.heap.size W w' → Calls Try.prog 12 #[.pointer (some ⟨E.b, 0, none⟩), .int .i64 o.p] w' fun e w2 => e = .returned (.bool (isN E o.p && E.up o.p.toNat)) ∧ Below w'.heap.size w' w2) := fun w' hb => calls_same (up_any ((Hd.out.still Hb.out).still hb).e o.p)
  have HB : Hid (∀ w', Below W.heap.size W w' → Calls Try.prog 72 #[.pointer (some ⟨R.b, 0, none⟩), .int .i64 o.p] w' fun e w2 => e = .returned (.bool (isN E o.p && E.up o.p.toNat)) ∧ Below w'.heap.size w' w2) := fun w' hb => by
    have := calls_same (rup_any ((Hd.out.still Hb.out).still hb).r o.p)
    rw [Hd.out.s.upq] at this
    exact this
  have H1 : Hid (∀ w', Below W.heap.size W w' → w'.cell? ⟨w.heap.size, 1, none⟩ = some (.int .i64 o.p)) := fun w' hb => below_at hb d1
  have H2 : Hid (∀ w', Below W.heap.size W w' → w'.cell? ⟨w.heap.size, 2, none⟩ = some (.int .i64 o.q)) := fun w' hb => below_at hb d2
  generalize (isN E o.p && E.up o.p.toNat) = xx at HA HB
  unfold Opx.cs at hW ⊢
  rw [hk] at hW d0 ⊢
  clear h hbW hblk
  go_enter Try.func56, Try.ntmps56
  go_wp2
  refine wp_region_held_drew (S := fun w' => Below W.heap.size W w') (by kernel_rfl) (Below.refl _ W).drew (fun hHeld => ?_)
  simp only [Act.put, List.size_toArray, List.length_cons, List.length_nil, Nat.zero_add]
  refine wpAnyH_take (i := 0) (v := .pointer (some ⟨E.b, 0, none⟩)) rfl (by kernel_rfl) (by kernel_rfl) (by kernel_rfl) (fun _ _ _ h => h) (Or.inl ⟨by rfl, fun w' hS => by go_simp⟩) hHeld ?_
  simp only [Act.put, List.getElem_toArray, List.getElem_cons_zero, List.getElem_cons_succ, List.setIfInBounds_toArray, List.set_cons_zero, List.set_cons_succ]
  refine wpAnyH_take (i := 1) (v := .pointer (some ⟨w.heap.size, 1, none⟩)) rfl (by kernel_rfl) (by kernel_rfl) (by kernel_rfl) (fun _ _ _ h => h) (Or.inl ⟨by rfl, fun w' hS => by go_simp⟩) hHeld ?_
  simp only [Act.put, List.getElem_toArray, List.getElem_cons_zero, List.getElem_cons_succ, List.setIfInBounds_toArray, List.set_cons_zero, List.set_cons_succ]
  refine wpAnyH_take (i := 2) (v := .int .i64 o.p) rfl (by kernel_rfl) (by kernel_rfl) (by kernel_rfl) (fun _ _ _ h => h) (Or.inl ⟨by rfl, fun w' hS => by (have hq := H1.out w' hS; go_simp)⟩) hHeld ?_
  simp only [Act.put, List.getElem_toArray, List.getElem_cons_zero, List.getElem_cons_succ, List.setIfInBounds_toArray, List.set_cons_zero, List.set_cons_succ]
  refine wpAnyH_take (i := 4) (v := .pointer (some ⟨R.b, 0, none⟩)) rfl (by kernel_rfl) (by kernel_rfl) (by kernel_rfl) (fun _ _ _ h => h) (Or.inl ⟨by rfl, fun w' hS => by go_simp⟩) hHeld ?_
  simp only [Act.put, List.getElem_toArray, List.getElem_cons_zero, List.getElem_cons_succ, List.setIfInBounds_toArray, List.set_cons_zero, List.set_cons_succ]
  refine wpAnyH_take (i := 5) (v := .pointer (some ⟨w.heap.size, 1, none⟩)) rfl (by kernel_rfl) (by kernel_rfl) (by kernel_rfl) (fun _ _ _ h => h) (Or.inl ⟨by rfl, fun w' hS => by go_simp⟩) hHeld ?_
  simp only [Act.put, List.getElem_toArray, List.getElem_cons_zero, List.getElem_cons_succ, List.setIfInBounds_toArray, List.set_cons_zero, List.set_cons_succ]
  refine wpAnyH_take (i := 6) (v := .int .i64 o.p) rfl (by kernel_rfl) (by kernel_rfl) (by kernel_rfl) (fun _ _ _ h => h) (Or.inl ⟨by rfl, fun w' hS => by (have hq := H1.out w' hS; go_simp)⟩) hHeld ?_
  simp only [Act.put, List.getElem_toArray, List.getElem_cons_zero, List.getElem_cons_succ, List.setIfInBounds_toArray, List.set_cons_zero, List.set_cons_succ]
  refine wpAnyH_ready (rs := [3]) (by kernel_rfl) (by simp) ?_
  refine AllReadyH.cons rfl (fun K hK => ?_) AllReadyH.nil
  · go_simp
    refine (HA.out _ hHeld).mono ?_
    rintro e w1 ⟨rfl, hb1⟩
    refine hK.out _ _ (bstep hHeld hb1) (fun hHeld => ?_)
    clear hK K
    refine wpAnyH_ready (rs := [7]) (by kernel_rfl) (by simp) ?_
    refine AllReadyH.cons rfl (fun K hK => ?_) AllReadyH.nil
    go_simp
    refine (HB.out _ hHeld).mono ?_
    rintro e w2 ⟨rfl, hb2⟩
    refine hK.out _ _ (bstep hHeld hb2) (fun hHeld => ?_)
    clear hK K
    refine wpAnyH_take (i := 8) (v := .bool true) rfl (by kernel_rfl) (by kernel_rfl) (by kernel_rfl) (fun _ _ _ h => h) (Or.inl ⟨by rfl, fun w' hS => by go_simp⟩) hHeld ?_
    simp only [Act.put, List.getElem_toArray, List.getElem_cons_zero, List.getElem_cons_succ, List.setIfInBounds_toArray, List.set_cons_zero, List.set_cons_succ]
    refine wpAnyH_ready (rs := [9]) (by kernel_rfl) (by simp) ?_
    refine AllReadyH.cons rfl (fun K hK => ?_) AllReadyH.nil
    go_simp
    have hF := hHeld
    refine hK.out _ _ hHeld (fun hHeld => ?_)
    clear hK K
    refine wpAnyH_done (by kernel_rfl) ?_ _
    go_wp2
    go_ret
    exact ⟨rfl, _, _, Hd.out.none (bstep Hb.out hF)⟩

set_option maxHeartbeats 400000 in
theorem nodes_inc (h : Duo E R w B K) (o : Opx) (hk : o.k = 2) : Calls Try.prog 56 #[.pointer (some ⟨E.b, 0, none⟩), .pointer (some ⟨R.b, 0, none⟩), .agg o.cs] w fun e w' => e = .returned (.bool true) ∧ ∃ E' R', Dtep w w' E E' R R' B K := by
  generalize hW : w.alloc (.cells o.cs 33) = W
  have hbW : Below w.heap.size w W := by rw [← hW]; exact balloc (Below.refl _ w)
  have hblk : W.heap[w.heap.size]? = some (.cells o.cs 33 (0, 0)) := by rw [← hW]; exact heap_alloc_new w _
  have hWs : w.heap.size < W.heap.size := lt_heap hblk
  obtain ⟨d0, d1, d2, d3, d4, d5⟩ := op_cells hblk
  have Hb : Hid (Below w.heap.size w W) := hbW
  have Hblk : Hid (W.heap[w.heap.size]? = some (.cells o.cs 33 (0, 0))) := hblk
  have Hd : Hid (Duo E R w B K) := h
  have HnE : Hid (¬ E.own w.heap.size) := fun e => by have := h.e.ltOwn e; omega
  have HnR : Hid (¬ R.own w.heap.size) := fun e => by have := h.r.ltOwn e; omega
  have HA : Hid (∀ w', Below W.heap.size W w' → Calls Try.prog 22 #[.pointer (some ⟨E.b, 0, none⟩), .int .i64 o.p] w' fun e w2 => e = .returned (.int .i64 (if isN E o.p then E.inc o.p.toNat else 0)) ∧ Below w'.heap.size w' w2) := fun w' hb => calls_same (inc_any ((Hd.out.still Hb.out).still hb).e o.p)
  have HB : Hid (∀ w', Below W.heap.size W w' → Calls Try.prog 73 #[.pointer (some ⟨R.b, 0, none⟩), .int .i64 o.p] w' fun e w2 => e = .returned (.int .i64 (if isN E o.p then E.inc o.p.toNat else 0)) ∧ Below w'.heap.size w' w2) := fun w' hb => by
    have := calls_same (rinc_any ((Hd.out.still Hb.out).still hb).r o.p)
    rw [Hd.out.s.incq] at this
    exact this
  have H1 : Hid (∀ w', Below W.heap.size W w' → w'.cell? ⟨w.heap.size, 1, none⟩ = some (.int .i64 o.p)) := fun w' hb => below_at hb d1
  have H2 : Hid (∀ w', Below W.heap.size W w' → w'.cell? ⟨w.heap.size, 2, none⟩ = some (.int .i64 o.q)) := fun w' hb => below_at hb d2
  generalize (if isN E o.p then E.inc o.p.toNat else 0) = xx at HA HB
  unfold Opx.cs at hW ⊢
  rw [hk] at hW d0 ⊢
  clear h hbW hblk
  go_enter Try.func56, Try.ntmps56
  go_wp2
  refine wp_region_held_drew (S := fun w' => Below W.heap.size W w') (by kernel_rfl) (Below.refl _ W).drew (fun hHeld => ?_)
  simp only [Act.put, List.size_toArray, List.length_cons, List.length_nil, Nat.zero_add]
  refine wpAnyH_take (i := 0) (v := .pointer (some ⟨E.b, 0, none⟩)) rfl (by kernel_rfl) (by kernel_rfl) (by kernel_rfl) (fun _ _ _ h => h) (Or.inl ⟨by rfl, fun w' hS => by go_simp⟩) hHeld ?_
  simp only [Act.put, List.getElem_toArray, List.getElem_cons_zero, List.getElem_cons_succ, List.setIfInBounds_toArray, List.set_cons_zero, List.set_cons_succ]
  refine wpAnyH_take (i := 1) (v := .pointer (some ⟨w.heap.size, 1, none⟩)) rfl (by kernel_rfl) (by kernel_rfl) (by kernel_rfl) (fun _ _ _ h => h) (Or.inl ⟨by rfl, fun w' hS => by go_simp⟩) hHeld ?_
  simp only [Act.put, List.getElem_toArray, List.getElem_cons_zero, List.getElem_cons_succ, List.setIfInBounds_toArray, List.set_cons_zero, List.set_cons_succ]
  refine wpAnyH_take (i := 2) (v := .int .i64 o.p) rfl (by kernel_rfl) (by kernel_rfl) (by kernel_rfl) (fun _ _ _ h => h) (Or.inl ⟨by rfl, fun w' hS => by (have hq := H1.out w' hS; go_simp)⟩) hHeld ?_
  simp only [Act.put, List.getElem_toArray, List.getElem_cons_zero, List.getElem_cons_succ, List.setIfInBounds_toArray, List.set_cons_zero, List.set_cons_succ]
  refine wpAnyH_take (i := 4) (v := .pointer (some ⟨R.b, 0, none⟩)) rfl (by kernel_rfl) (by kernel_rfl) (by kernel_rfl) (fun _ _ _ h => h) (Or.inl ⟨by rfl, fun w' hS => by go_simp⟩) hHeld ?_
  simp only [Act.put, List.getElem_toArray, List.getElem_cons_zero, List.getElem_cons_succ, List.setIfInBounds_toArray, List.set_cons_zero, List.set_cons_succ]
  refine wpAnyH_take (i := 5) (v := .pointer (some ⟨w.heap.size, 1, none⟩)) rfl (by kernel_rfl) (by kernel_rfl) (by kernel_rfl) (fun _ _ _ h => h) (Or.inl ⟨by rfl, fun w' hS => by go_simp⟩) hHeld ?_
  simp only [Act.put, List.getElem_toArray, List.getElem_cons_zero, List.getElem_cons_succ, List.setIfInBounds_toArray, List.set_cons_zero, List.set_cons_succ]
  refine wpAnyH_take (i := 6) (v := .int .i64 o.p) rfl (by kernel_rfl) (by kernel_rfl) (by kernel_rfl) (fun _ _ _ h => h) (Or.inl ⟨by rfl, fun w' hS => by (have hq := H1.out w' hS; go_simp)⟩) hHeld ?_
  simp only [Act.put, List.getElem_toArray, List.getElem_cons_zero, List.getElem_cons_succ, List.setIfInBounds_toArray, List.set_cons_zero, List.set_cons_succ]
  refine wpAnyH_ready (rs := [3]) (by kernel_rfl) (by simp) ?_
  refine AllReadyH.cons rfl (fun K hK => ?_) AllReadyH.nil
  · go_simp
    refine (HA.out _ hHeld).mono ?_
    rintro e w1 ⟨rfl, hb1⟩
    refine hK.out _ _ (bstep hHeld hb1) (fun hHeld => ?_)
    clear hK K
    refine wpAnyH_ready (rs := [7]) (by kernel_rfl) (by simp) ?_
    refine AllReadyH.cons rfl (fun K hK => ?_) AllReadyH.nil
    go_simp
    refine (HB.out _ hHeld).mono ?_
    rintro e w2 ⟨rfl, hb2⟩
    refine hK.out _ _ (bstep hHeld hb2) (fun hHeld => ?_)
    clear hK K
    refine wpAnyH_take (i := 8) (v := .bool true) rfl (by kernel_rfl) (by kernel_rfl) (by kernel_rfl) (fun _ _ _ h => h) (Or.inl ⟨by rfl, fun w' hS => by go_simp⟩) hHeld ?_
    simp only [Act.put, List.getElem_toArray, List.getElem_cons_zero, List.getElem_cons_succ, List.setIfInBounds_toArray, List.set_cons_zero, List.set_cons_succ]
    refine wpAnyH_ready (rs := [9]) (by kernel_rfl) (by simp) ?_
    refine AllReadyH.cons rfl (fun K hK => ?_) AllReadyH.nil
    go_simp
    have hF := hHeld
    refine hK.out _ _ hHeld (fun hHeld => ?_)
    clear hK K
    refine wpAnyH_done (by kernel_rfl) ?_ _
    go_wp2
    go_ret
    exact ⟨rfl, _, _, Hd.out.none (bstep Hb.out hF)⟩

set_option maxHeartbeats 400000 in
theorem nodes_ticks (h : Duo E R w B K) (o : Opx) (hk : o.k = 3) : Calls Try.prog 56 #[.pointer (some ⟨E.b, 0, none⟩), .pointer (some ⟨R.b, 0, none⟩), .agg o.cs] w fun e w' => e = .returned (.bool true) ∧ ∃ E' R', Dtep w w' E E' R R' B K := by
  generalize hW : w.alloc (.cells o.cs 33) = W
  have hbW : Below w.heap.size w W := by rw [← hW]; exact balloc (Below.refl _ w)
  have hblk : W.heap[w.heap.size]? = some (.cells o.cs 33 (0, 0)) := by rw [← hW]; exact heap_alloc_new w _
  have hWs : w.heap.size < W.heap.size := lt_heap hblk
  obtain ⟨d0, d1, d2, d3, d4, d5⟩ := op_cells hblk
  have Hb : Hid (Below w.heap.size w W) := hbW
  have Hblk : Hid (W.heap[w.heap.size]? = some (.cells o.cs 33 (0, 0))) := hblk
  have Hd : Hid (Duo E R w B K) := h
  have HnE : Hid (¬ E.own w.heap.size) := fun e => by have := h.e.ltOwn e; omega
  have HnR : Hid (¬ R.own w.heap.size) := fun e => by have := h.r.ltOwn e; omega
  have HA : Hid (∀ w', Below W.heap.size W w' → Calls Try.prog 51 #[.pointer (some ⟨E.b, 0, none⟩), .int .i64 o.p] w' fun e w2 => e = .returned (.int .i64 (if isN E o.p then E.tick o.p.toNat else 0)) ∧ Below w'.heap.size w' w2) := fun w' hb => calls_same (ticks_any ((Hd.out.still Hb.out).still hb).e o.p)
  have HB : Hid (∀ w', Below W.heap.size W w' → Calls Try.prog 74 #[.pointer (some ⟨R.b, 0, none⟩), .int .i64 o.p] w' fun e w2 => e = .returned (.int .i64 (if isN E o.p then E.tick o.p.toNat else 0)) ∧ Below w'.heap.size w' w2) := fun w' hb => by
    have := calls_same (rticks_any ((Hd.out.still Hb.out).still hb).r o.p)
    rw [Hd.out.s.tickq] at this
    exact this
  have H1 : Hid (∀ w', Below W.heap.size W w' → w'.cell? ⟨w.heap.size, 1, none⟩ = some (.int .i64 o.p)) := fun w' hb => below_at hb d1
  have H2 : Hid (∀ w', Below W.heap.size W w' → w'.cell? ⟨w.heap.size, 2, none⟩ = some (.int .i64 o.q)) := fun w' hb => below_at hb d2
  generalize (if isN E o.p then E.tick o.p.toNat else 0) = xx at HA HB
  unfold Opx.cs at hW ⊢
  rw [hk] at hW d0 ⊢
  clear h hbW hblk
  go_enter Try.func56, Try.ntmps56
  go_wp2
  refine wp_region_held_drew (S := fun w' => Below W.heap.size W w') (by kernel_rfl) (Below.refl _ W).drew (fun hHeld => ?_)
  simp only [Act.put, List.size_toArray, List.length_cons, List.length_nil, Nat.zero_add]
  refine wpAnyH_take (i := 0) (v := .pointer (some ⟨E.b, 0, none⟩)) rfl (by kernel_rfl) (by kernel_rfl) (by kernel_rfl) (fun _ _ _ h => h) (Or.inl ⟨by rfl, fun w' hS => by go_simp⟩) hHeld ?_
  simp only [Act.put, List.getElem_toArray, List.getElem_cons_zero, List.getElem_cons_succ, List.setIfInBounds_toArray, List.set_cons_zero, List.set_cons_succ]
  refine wpAnyH_take (i := 1) (v := .pointer (some ⟨w.heap.size, 1, none⟩)) rfl (by kernel_rfl) (by kernel_rfl) (by kernel_rfl) (fun _ _ _ h => h) (Or.inl ⟨by rfl, fun w' hS => by go_simp⟩) hHeld ?_
  simp only [Act.put, List.getElem_toArray, List.getElem_cons_zero, List.getElem_cons_succ, List.setIfInBounds_toArray, List.set_cons_zero, List.set_cons_succ]
  refine wpAnyH_take (i := 2) (v := .int .i64 o.p) rfl (by kernel_rfl) (by kernel_rfl) (by kernel_rfl) (fun _ _ _ h => h) (Or.inl ⟨by rfl, fun w' hS => by (have hq := H1.out w' hS; go_simp)⟩) hHeld ?_
  simp only [Act.put, List.getElem_toArray, List.getElem_cons_zero, List.getElem_cons_succ, List.setIfInBounds_toArray, List.set_cons_zero, List.set_cons_succ]
  refine wpAnyH_take (i := 4) (v := .pointer (some ⟨R.b, 0, none⟩)) rfl (by kernel_rfl) (by kernel_rfl) (by kernel_rfl) (fun _ _ _ h => h) (Or.inl ⟨by rfl, fun w' hS => by go_simp⟩) hHeld ?_
  simp only [Act.put, List.getElem_toArray, List.getElem_cons_zero, List.getElem_cons_succ, List.setIfInBounds_toArray, List.set_cons_zero, List.set_cons_succ]
  refine wpAnyH_take (i := 5) (v := .pointer (some ⟨w.heap.size, 1, none⟩)) rfl (by kernel_rfl) (by kernel_rfl) (by kernel_rfl) (fun _ _ _ h => h) (Or.inl ⟨by rfl, fun w' hS => by go_simp⟩) hHeld ?_
  simp only [Act.put, List.getElem_toArray, List.getElem_cons_zero, List.getElem_cons_succ, List.setIfInBounds_toArray, List.set_cons_zero, List.set_cons_succ]
  refine wpAnyH_take (i := 6) (v := .int .i64 o.p) rfl (by kernel_rfl) (by kernel_rfl) (by kernel_rfl) (fun _ _ _ h => h) (Or.inl ⟨by rfl, fun w' hS => by (have hq := H1.out w' hS; go_simp)⟩) hHeld ?_
  simp only [Act.put, List.getElem_toArray, List.getElem_cons_zero, List.getElem_cons_succ, List.setIfInBounds_toArray, List.set_cons_zero, List.set_cons_succ]
  refine wpAnyH_ready (rs := [3]) (by kernel_rfl) (by simp) ?_
  refine AllReadyH.cons rfl (fun K hK => ?_) AllReadyH.nil
  · go_simp
    refine (HA.out _ hHeld).mono ?_
    rintro e w1 ⟨rfl, hb1⟩
    refine hK.out _ _ (bstep hHeld hb1) (fun hHeld => ?_)
    clear hK K
    refine wpAnyH_ready (rs := [7]) (by kernel_rfl) (by simp) ?_
    refine AllReadyH.cons rfl (fun K hK => ?_) AllReadyH.nil
    go_simp
    refine (HB.out _ hHeld).mono ?_
    rintro e w2 ⟨rfl, hb2⟩
    refine hK.out _ _ (bstep hHeld hb2) (fun hHeld => ?_)
    clear hK K
    refine wpAnyH_take (i := 8) (v := .bool true) rfl (by kernel_rfl) (by kernel_rfl) (by kernel_rfl) (fun _ _ _ h => h) (Or.inl ⟨by rfl, fun w' hS => by go_simp⟩) hHeld ?_
    simp only [Act.put, List.getElem_toArray, List.getElem_cons_zero, List.getElem_cons_succ, List.setIfInBounds_toArray, List.set_cons_zero, List.set_cons_succ]
    refine wpAnyH_ready (rs := [9]) (by kernel_rfl) (by simp) ?_
    refine AllReadyH.cons rfl (fun K hK => ?_) AllReadyH.nil
    go_simp
    have hF := hHeld
    refine hK.out _ _ hHeld (fun hHeld => ?_)
    clear hK K
    refine wpAnyH_done (by kernel_rfl) ?_ _
    go_wp2
    go_ret
    exact ⟨rfl, _, _, Hd.out.none (bstep Hb.out hF)⟩

set_option maxHeartbeats 400000 in
theorem nodes_clock (h : Duo E R w B K) (o : Opx) (hk : o.k = 4) : Calls Try.prog 56 #[.pointer (some ⟨E.b, 0, none⟩), .pointer (some ⟨R.b, 0, none⟩), .agg o.cs] w fun e w' => e = .returned (.bool true) ∧ ∃ E' R', Dtep w w' E E' R R' B K := by
  generalize hW : w.alloc (.cells o.cs 33) = W
  have hbW : Below w.heap.size w W := by rw [← hW]; exact balloc (Below.refl _ w)
  have hblk : W.heap[w.heap.size]? = some (.cells o.cs 33 (0, 0)) := by rw [← hW]; exact heap_alloc_new w _
  have hWs : w.heap.size < W.heap.size := lt_heap hblk
  obtain ⟨d0, d1, d2, d3, d4, d5⟩ := op_cells hblk
  have Hb : Hid (Below w.heap.size w W) := hbW
  have Hblk : Hid (W.heap[w.heap.size]? = some (.cells o.cs 33 (0, 0))) := hblk
  have Hd : Hid (Duo E R w B K) := h
  have HnE : Hid (¬ E.own w.heap.size) := fun e => by have := h.e.ltOwn e; omega
  have HnR : Hid (¬ R.own w.heap.size) := fun e => by have := h.r.ltOwn e; omega
  have HA := clock_any (h.still hbW).e
  have HB := rclock_any (h.still hbW).r
  rw [h.s.now] at HB
  generalize E.clock = c at HA HB
  unfold Opx.cs at hW ⊢
  rw [hk] at hW d0 ⊢
  clear h hbW hblk
  go_enter Try.func56, Try.ntmps56
  go_wp2_with (first | (go_at_call 18; refine HA.mono ?_; rintro e w1 ⟨rfl, rfl⟩) | (go_at_call 75; refine HB.mono ?_; rintro e w1 ⟨rfl, rfl⟩) | fail)
  all_goals (go_ret; exact ⟨by simp, _, _, Hd.out.none Hb.out⟩)

set_option maxHeartbeats 400000 in
theorem nodes_tick (h : Duo E R w B K) (o : Opx) (hk : o.k = 5) : Calls Try.prog 56 #[.pointer (some ⟨E.b, 0, none⟩), .pointer (some ⟨R.b, 0, none⟩), .agg o.cs] w fun e w' => e = .returned (.bool true) ∧ ∃ E' R', Dtep w w' E E' R R' B K := by
  generalize hW : w.alloc (.cells o.cs 33) = W
  have hbW : Below w.heap.size w W := by rw [← hW]; exact balloc (Below.refl _ w)
  have hblk : W.heap[w.heap.size]? = some (.cells o.cs 33 (0, 0)) := by rw [← hW]; exact heap_alloc_new w _
  have hWs : w.heap.size < W.heap.size := lt_heap hblk
  obtain ⟨d0, d1, d2, d3, d4, d5⟩ := op_cells hblk
  have Hb : Hid (Below w.heap.size w W) := hbW
  have Hblk : Hid (W.heap[w.heap.size]? = some (.cells o.cs 33 (0, 0))) := hblk
  have Hd : Hid (Duo E R w B K) := h
  have HnE : Hid (¬ E.own w.heap.size) := fun e => by have := h.e.ltOwn e; omega
  have HnR : Hid (¬ R.own w.heap.size) := fun e => by have := h.r.ltOwn e; omega
  obtain ⟨x, y, hp⟩ := pair_tick h o.p
  have HP : Hid (Pair 34 76 #[.pointer (some ⟨E.b, 0, none⟩), .int .i64 o.p] #[.pointer (some ⟨R.b, 0, none⟩), .int .i64 o.p] E R w B K (.tuple #[.int .i64 x, .int .i64 y])) := hp
  clear hp
  unfold Opx.cs at hW ⊢
  rw [hk] at hW d0 ⊢
  clear h hbW hblk
  go_enter Try.func56, Try.ntmps56
  go_wp2_with (first
    | (go_at_call 34; refine (HP.out _ Hb.out).mono ?_; rintro e w1 ⟨rfl, hk1, hr1⟩; have t1 := kcell hk1 d1 HnE.out; have HR : Hid (∀ w2, Below w1.heap.size w1 w2 → Calls Try.prog 76 #[.pointer (some ⟨R.b, 0, none⟩), .int .i64 o.p] w2 fun e w3 => e = .returned (.tuple #[.int .i64 x, .int .i64 y]) ∧ Kept w2 w3 R.own ∧ ∃ E' R', Dtep W w3 E E' R R' B K) := hr1; clear hr1 hk1)
    | (go_at_call 76; refine (HR.out _ (Below.refl _ _)).mono ?_; rintro e w3 ⟨rfl, hk3, E2, R2, hd⟩; have HD : Hid (Dtep W w3 E E2 R R2 B K) := hd; clear hd hk3)
    | (go_at_call 32; refine (num_any _).mono ?_; rintro e w4 ⟨rfl, rfl⟩)
    | fail)
  all_goals (go_ret; exact ⟨by simp, E2, R2, HD.out.pre Hb.out⟩)

set_option maxHeartbeats 400000 in
theorem nodes_crash (h : Duo E R w B K) (o : Opx) (hk : o.k = 6) : Calls Try.prog 56 #[.pointer (some ⟨E.b, 0, none⟩), .pointer (some ⟨R.b, 0, none⟩), .agg o.cs] w fun e w' => e = .returned (.bool true) ∧ ∃ E' R', Dtep w w' E E' R R' B K := by
  generalize hW : w.alloc (.cells o.cs 33) = W
  have hbW : Below w.heap.size w W := by rw [← hW]; exact balloc (Below.refl _ w)
  have hblk : W.heap[w.heap.size]? = some (.cells o.cs 33 (0, 0)) := by rw [← hW]; exact heap_alloc_new w _
  have hWs : w.heap.size < W.heap.size := lt_heap hblk
  obtain ⟨d0, d1, d2, d3, d4, d5⟩ := op_cells hblk
  have Hb : Hid (Below w.heap.size w W) := hbW
  have Hblk : Hid (W.heap[w.heap.size]? = some (.cells o.cs 33 (0, 0))) := hblk
  have Hd : Hid (Duo E R w B K) := h
  have HnE : Hid (¬ E.own w.heap.size) := fun e => by have := h.e.ltOwn e; omega
  have HnR : Hid (¬ R.own w.heap.size) := fun e => by have := h.r.ltOwn e; omega
  obtain ⟨x, hp⟩ := pair_crash h o.p
  have HP : Hid (Pair 35 77 #[.pointer (some ⟨E.b, 0, none⟩), .int .i64 o.p] #[.pointer (some ⟨R.b, 0, none⟩), .int .i64 o.p] E R w B K (.int .i64 x)) := hp
  clear hp
  unfold Opx.cs at hW ⊢
  rw [hk] at hW d0 ⊢
  clear h hbW hblk
  go_enter Try.func56, Try.ntmps56
  go_wp2_with (first
    | (go_at_call 35; refine (HP.out _ Hb.out).mono ?_; rintro e w1 ⟨rfl, hk1, hr1⟩; have t1 := kcell hk1 d1 HnE.out; have HR : Hid (∀ w2, Below w1.heap.size w1 w2 → Calls Try.prog 77 #[.pointer (some ⟨R.b, 0, none⟩), .int .i64 o.p] w2 fun e w3 => e = .returned (.int .i64 x) ∧ Kept w2 w3 R.own ∧ ∃ E' R', Dtep W w3 E E' R R' B K) := hr1; clear hr1 hk1)
    | (go_at_call 77; refine (HR.out _ (Below.refl _ _)).mono ?_; rintro e w3 ⟨rfl, hk3, E2, R2, hd⟩; have HD : Hid (Dtep W w3 E E2 R R2 B K) := hd; clear hd hk3)
    | (go_at_call 32; refine (num_any _).mono ?_; rintro e w4 ⟨rfl, rfl⟩)
    | fail)
  all_goals (go_ret; exact ⟨by simp, E2, R2, HD.out.pre Hb.out⟩)

set_option maxHeartbeats 400000 in
theorem nodes_restart (h : Duo E R w B K) (o : Opx) (hk : o.k = 7) : Calls Try.prog 56 #[.pointer (some ⟨E.b, 0, none⟩), .pointer (some ⟨R.b, 0, none⟩), .agg o.cs] w fun e w' => e = .returned (.bool true) ∧ ∃ E' R', Dtep w w' E E' R R' B K := by
  generalize hW : w.alloc (.cells o.cs 33) = W
  have hbW : Below w.heap.size w W := by rw [← hW]; exact balloc (Below.refl _ w)
  have hblk : W.heap[w.heap.size]? = some (.cells o.cs 33 (0, 0)) := by rw [← hW]; exact heap_alloc_new w _
  have hWs : w.heap.size < W.heap.size := lt_heap hblk
  obtain ⟨d0, d1, d2, d3, d4, d5⟩ := op_cells hblk
  have Hb : Hid (Below w.heap.size w W) := hbW
  have Hblk : Hid (W.heap[w.heap.size]? = some (.cells o.cs 33 (0, 0))) := hblk
  have Hd : Hid (Duo E R w B K) := h
  have HnE : Hid (¬ E.own w.heap.size) := fun e => by have := h.e.ltOwn e; omega
  have HnR : Hid (¬ R.own w.heap.size) := fun e => by have := h.r.ltOwn e; omega
  obtain ⟨x, y, hp⟩ := pair_restart h o.p
  have HP : Hid (Pair 11 78 #[.pointer (some ⟨E.b, 0, none⟩), .int .i64 o.p] #[.pointer (some ⟨R.b, 0, none⟩), .int .i64 o.p] E R w B K (.tuple #[.int .i64 x, .int .i64 y])) := hp
  clear hp
  unfold Opx.cs at hW ⊢
  rw [hk] at hW d0 ⊢
  clear h hbW hblk
  go_enter Try.func56, Try.ntmps56
  go_wp2_with (first
    | (go_at_call 11; refine (HP.out _ Hb.out).mono ?_; rintro e w1 ⟨rfl, hk1, hr1⟩; have t1 := kcell hk1 d1 HnE.out; have HR : Hid (∀ w2, Below w1.heap.size w1 w2 → Calls Try.prog 78 #[.pointer (some ⟨R.b, 0, none⟩), .int .i64 o.p] w2 fun e w3 => e = .returned (.tuple #[.int .i64 x, .int .i64 y]) ∧ Kept w2 w3 R.own ∧ ∃ E' R', Dtep W w3 E E' R R' B K) := hr1; clear hr1 hk1)
    | (go_at_call 78; refine (HR.out _ (Below.refl _ _)).mono ?_; rintro e w3 ⟨rfl, hk3, E2, R2, hd⟩; have HD : Hid (Dtep W w3 E E2 R R2 B K) := hd; clear hd hk3)
    | (go_at_call 32; refine (num_any _).mono ?_; rintro e w4 ⟨rfl, rfl⟩)
    | fail)
  all_goals (go_ret; exact ⟨by simp, E2, R2, HD.out.pre Hb.out⟩)

theorem nodes_any (h : Duo E R w B K) (o : Opx) (h1 : 1 ≤ o.k) (h2 : o.k ≤ 7) : Calls Try.prog 56 #[.pointer (some ⟨E.b, 0, none⟩), .pointer (some ⟨R.b, 0, none⟩), .agg o.cs] w fun e w' => e = .returned (.bool true) ∧ ∃ E' R', Dtep w w' E E' R R' B K := by
  rcases (show o.k = 1 ∨ o.k = 2 ∨ o.k = 3 ∨ o.k = 4 ∨ o.k = 5 ∨ o.k = 6 ∨ o.k = 7 by omega) with hk | hk | hk | hk | hk | hk | hk
  · exact nodes_up h o hk
  · exact nodes_inc h o hk
  · exact nodes_ticks h o hk
  · exact nodes_clock h o hk
  · exact nodes_tick h o hk
  · exact nodes_crash h o hk
  · exact nodes_restart h o hk
end
end Go.Proofs.Ythogcanfinjfdaa.Et
