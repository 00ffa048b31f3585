import Derived.Test.YtnhhjelplmdloaaWd
import Derived.LoopN
import Derived.WalkKit
import Derived.ProofKit
import Derived.OpenShut
import Derived.ShutString
import Derived.ChangeOld
import Derived.Below
import Derived.Deep.Slices
import Derived.SizedLaws
namespace Go.Proofs.Ytnhhjelplmdloaa.Et
open Go.RowKit Go.Maps
set_option linter.unusedVariables false
set_option linter.unusedSimpArgs false
set_option maxRecDepth 100000
structure Opx where
  k : Int
  p : Int
  q : Int
  n : Int
  ba : Option Addr
  bn : Nat
  bc : Nat
  sa : Option Addr
  sn : Nat
  sc : Nat
def Opx.cs (o : Opx) : Array Value := #[.int .i64 o.k, .int .i64 o.p, .int .i64 o.q, .int .i64 o.n, .slice o.ba o.bn o.bc, .slice o.sa o.sn o.sc]
theorem op_cells {w : World} {t : TypeId} {k : Nat} {o : Opx} (h : w.heap[k]? = some (.cells o.cs t (0, 0))) : w.cell? ⟨k, 0, none⟩ = some (.int .i64 o.k) ∧ w.cell? ⟨k, 1, none⟩ = some (.int .i64 o.p) ∧ w.cell? ⟨k, 2, none⟩ = some (.int .i64 o.q) ∧ w.cell? ⟨k, 3, none⟩ = some (.int .i64 o.n) ∧ w.cell? ⟨k, 4, none⟩ = some (.slice o.ba o.bn o.bc) ∧ w.cell? ⟨k, 5, none⟩ = some (.slice o.sa o.sn o.sc) :=
  ⟨blk_cell h 0, blk_cell h 1, blk_cell h 2, blk_cell h 3, blk_cell h 4, blk_cell h 5⟩
def RdI (w : World) (ao : Option Addr) (len cap : Nat) (xs : List Int) : Prop :=
  xs.length = len ∧ (ao = none → len = 0 ∧ cap = 0) ∧ (len = 0 ∨ ∃ b off, ao = some ⟨b, off, none⟩ ∧ ∀ i, i < len → w.cell? ⟨b, off + i, none⟩ = some (.int .i64 (xs.getD i 0)))
def sv (x : Int) : Value := .int .i64 x
def mks (k : Nat) : List Int := (List.range k).map fun (i : Nat) => (700 : Int) + (i : Int)
theorem mks_succ (k : Nat) : mks (k + 1) = mks k ++ [(700 : Int) + (k : Int)] := by simp [mks, List.range_succ]
theorem mks_len (k : Nat) : (mks k).length = k := by simp [mks]
theorem mks_at (k i : Nat) (hi : i < k) : (mks k).getD i 0 = 700 + (i : Int) := by simp [mks, List.getD, hi]
def MarkedI (w : World) (B g n c : Nat) (xs : List Int) : Prop := w.ownsRow B 3 1 (.slice (some ⟨g, 0, none⟩) (n + 64) c) (n + 64) ((xs ++ mks 64).map (Value.int .i64))
section
variable {w w' W w1 : World} {B m : Nat}
theorem RdI.still {ao : Option Addr} {len cap : Nat} {xs : List Int} (h : RdI w ao len cap xs) (hb : Below w.heap.size w w') : RdI w' ao len cap xs := by
  obtain ⟨h1, h2, h3⟩ := h
  refine ⟨h1, h2, h3.elim (fun hh => Or.inl hh) (fun hh => Or.inr ?_)⟩
  obtain ⟨b, off, rfl, hc⟩ := hh
  exact ⟨b, off, rfl, fun i hi => (hb.cell (World.block_lt_of_cell? w _ (hc i hi))).trans (hc i hi)⟩
theorem RdI.cells {ao : Option Addr} {len cap : Nat} {xs : List Int} (h : RdI w ao len cap xs) : ∀ ad, ao = some ad → ∀ j u, (xs.map (Value.int .i64))[j]? = some u → w.cell? (ad.add j) = some u := by
  intro a ha j v hv
  obtain ⟨hl, _, hc⟩ := h
  have hj : j < len := by have := (List.getElem?_eq_some_iff.1 hv).1; simpa [hl] using this
  rcases hc with hc | ⟨b, off, hao, hc⟩
  · omega
  · rw [ha] at hao
    obtain rfl : a = ⟨b, off, none⟩ := by simpa using hao
    have e : (⟨b, off, none⟩ : Addr).add j = ⟨b, off + j, none⟩ := by unfold Addr.add; split <;> simp_all
    rw [e, hc j hj]
    rw [List.getElem?_map, List.getElem?_eq_getElem (show j < xs.length by omega)] at hv
    simp only [Option.map_some, Option.some.injEq] at hv
    rw [← hv]
    simp [List.getD, List.getElem?_eq_getElem (show j < xs.length by omega)]
theorem ints_one (xs : List Int) : ∀ u ∈ xs.map (Value.int .i64), u.oneCell' = true := by
  intro u hu
  obtain ⟨_, _, rfl⟩ := List.mem_map.1 hu
  rfl
def put13 (W : World) (k : Nat) (v0 v1 v2 v3 v4 v5 v6 v7 v8 v9 v10 v11 v12 : Value) : World := (((((((((((((W.setCell ⟨k, 0, none⟩ v0).setCell ⟨k, 1, none⟩ v1).setCell ⟨k, 2, none⟩ v2).setCell ⟨k, 3, none⟩ v3).setCell ⟨k, 4, none⟩ v4).setCell ⟨k, 5, none⟩ v5).setCell ⟨k, 6, none⟩ v6).setCell ⟨k, 7, none⟩ v7).setCell ⟨k, 8, none⟩ v8).setCell ⟨k, 9, none⟩ v9).setCell ⟨k, 10, none⟩ v10).setCell ⟨k, 11, none⟩ v11).setCell ⟨k, 12, none⟩ v12)
theorem put13_eq (W : World) (k : Nat) (v0 v1 v2 v3 v4 v5 v6 v7 v8 v9 v10 v11 v12 : Value) : (((((((((((((W.setCell ⟨k, 0, none⟩ v0).setCell ⟨k, 1, none⟩ v1).setCell ⟨k, 2, none⟩ v2).setCell ⟨k, 3, none⟩ v3).setCell ⟨k, 4, none⟩ v4).setCell ⟨k, 5, none⟩ v5).setCell ⟨k, 6, none⟩ v6).setCell ⟨k, 7, none⟩ v7).setCell ⟨k, 8, none⟩ v8).setCell ⟨k, 9, none⟩ v9).setCell ⟨k, 10, none⟩ v10).setCell ⟨k, 11, none⟩ v11).setCell ⟨k, 12, none⟩ v12) = put13 W k v0 v1 v2 v3 v4 v5 v6 v7 v8 v9 v10 v11 v12 := rfl
theorem put13_blk {W : World} {k : Nat} {t : TypeId} {z0 z1 z2 z3 z4 z5 z6 z7 z8 z9 z10 z11 z12 : Value} (v0 v1 v2 v3 v4 v5 v6 v7 v8 v9 v10 v11 v12 : Value) (h : W.heap[k]? = some (.cells #[z0, z1, z2, z3, z4, z5, z6, z7, z8, z9, z10, z11, z12] t (0, 0))) : (put13 W k v0 v1 v2 v3 v4 v5 v6 v7 v8 v9 v10 v11 v12).heap[k]? = some (.cells #[v0, v1, v2, v3, v4, v5, v6, v7, v8, v9, v10, v11, v12] t (0, 0)) := by
  have h0 : (W.setCell ⟨k, 0, none⟩ v0).heap[k]? = some (.cells #[v0, z1, z2, z3, z4, z5, z6, z7, z8, z9, z10, z11, z12] t (0, 0)) := blk_set h rfl
  have h1 : ((W.setCell ⟨k, 0, none⟩ v0).setCell ⟨k, 1, none⟩ v1).heap[k]? = some (.cells #[v0, v1, z2, z3, z4, z5, z6, z7, z8, z9, z10, z11, z12] t (0, 0)) := blk_set h0 rfl
  have h2 : (((W.setCell ⟨k, 0, none⟩ v0).setCell ⟨k, 1, none⟩ v1).setCell ⟨k, 2, none⟩ v2).heap[k]? = some (.cells #[v0, v1, v2, z3, z4, z5, z6, z7, z8, z9, z10, z11, z12] t (0, 0)) := blk_set h1 rfl
  have h3 : ((((W.setCell ⟨k, 0, none⟩ v0).setCell ⟨k, 1, none⟩ v1).setCell ⟨k, 2, none⟩ v2).setCell ⟨k, 3, none⟩ v3).heap[k]? = some (.cells #[v0, v1, v2, v3, z4, z5, z6, z7, z8, z9, z10, z11, z12] t (0, 0)) := blk_set h2 rfl
  have h4 : (((((W.setCell ⟨k, 0, none⟩ v0).setCell ⟨k, 1, none⟩ v1).setCell ⟨k, 2, none⟩ v2).setCell ⟨k, 3, none⟩ v3).setCell ⟨k, 4, none⟩ v4).heap[k]? = some (.cells #[v0, v1, v2, v3, v4, z5, z6, z7, z8, z9, z10, z11, z12] t (0, 0)) := blk_set h3 rfl
  have h5 : ((((((W.setCell ⟨k, 0, none⟩ v0).setCell ⟨k, 1, none⟩ v1).setCell ⟨k, 2, none⟩ v2).setCell ⟨k, 3, none⟩ v3).setCell ⟨k, 4, none⟩ v4).setCell ⟨k, 5, none⟩ v5).heap[k]? = some (.cells #[v0, v1, v2, v3, v4, v5, z6, z7, z8, z9, z10, z11, z12] t (0, 0)) := blk_set h4 rfl
  have h6 : (((((((W.setCell ⟨k, 0, none⟩ v0).setCell ⟨k, 1, none⟩ v1).setCell ⟨k, 2, none⟩ v2).setCell ⟨k, 3, none⟩ v3).setCell ⟨k, 4, none⟩ v4).setCell ⟨k, 5, none⟩ v5).setCell ⟨k, 6, none⟩ v6).heap[k]? = some (.cells #[v0, v1, v2, v3, v4, v5, v6, z7, z8, z9, z10, z11, z12] t (0, 0)) := blk_set h5 rfl
  have h7 : ((((((((W.setCell ⟨k, 0, none⟩ v0).setCell ⟨k, 1, none⟩ v1).setCell ⟨k, 2, none⟩ v2).setCell ⟨k, 3, none⟩ v3).setCell ⟨k, 4, none⟩ v4).setCell ⟨k, 5, none⟩ v5).setCell ⟨k, 6, none⟩ v6).setCell ⟨k, 7, none⟩ v7).heap[k]? = some (.cells #[v0, v1, v2, v3, v4, v5, v6, v7, z8, z9, z10, z11, z12] t (0, 0)) := blk_set h6 rfl
  have h8 : (((((((((W.setCell ⟨k, 0, none⟩ v0).setCell ⟨k, 1, none⟩ v1).setCell ⟨k, 2, none⟩ v2).setCell ⟨k, 3, none⟩ v3).setCell ⟨k, 4, none⟩ v4).setCell ⟨k, 5, none⟩ v5).setCell ⟨k, 6, none⟩ v6).setCell ⟨k, 7, none⟩ v7).setCell ⟨k, 8, none⟩ v8).heap[k]? = some (.cells #[v0, v1, v2, v3, v4, v5, v6, v7, v8, z9, z10, z11, z12] t (0, 0)) := blk_set h7 rfl
  have h9 : ((((((((((W.setCell ⟨k, 0, none⟩ v0).setCell ⟨k, 1, none⟩ v1).setCell ⟨k, 2, none⟩ v2).setCell ⟨k, 3, none⟩ v3).setCell ⟨k, 4, none⟩ v4).setCell ⟨k, 5, none⟩ v5).setCell ⟨k, 6, none⟩ v6).setCell ⟨k, 7, none⟩ v7).setCell ⟨k, 8, none⟩ v8).setCell ⟨k, 9, none⟩ v9).heap[k]? = some (.cells #[v0, v1, v2, v3, v4, v5, v6, v7, v8, v9, z10, z11, z12] t (0, 0)) := blk_set h8 rfl
  have h10 : (((((((((((W.setCell ⟨k, 0, none⟩ v0).setCell ⟨k, 1, none⟩ v1).setCell ⟨k, 2, none⟩ v2).setCell ⟨k, 3, none⟩ v3).setCell ⟨k, 4, none⟩ v4).setCell ⟨k, 5, none⟩ v5).setCell ⟨k, 6, none⟩ v6).setCell ⟨k, 7, none⟩ v7).setCell ⟨k, 8, none⟩ v8).setCell ⟨k, 9, none⟩ v9).setCell ⟨k, 10, none⟩ v10).heap[k]? = some (.cells #[v0, v1, v2, v3, v4, v5, v6, v7, v8, v9, v10, z11, z12] t (0, 0)) := blk_set h9 rfl
  have h11 : ((((((((((((W.setCell ⟨k, 0, none⟩ v0).setCell ⟨k, 1, none⟩ v1).setCell ⟨k, 2, none⟩ v2).setCell ⟨k, 3, none⟩ v3).setCell ⟨k, 4, none⟩ v4).setCell ⟨k, 5, none⟩ v5).setCell ⟨k, 6, none⟩ v6).setCell ⟨k, 7, none⟩ v7).setCell ⟨k, 8, none⟩ v8).setCell ⟨k, 9, none⟩ v9).setCell ⟨k, 10, none⟩ v10).setCell ⟨k, 11, none⟩ v11).heap[k]? = some (.cells #[v0, v1, v2, v3, v4, v5, v6, v7, v8, v9, v10, v11, z12] t (0, 0)) := blk_set h10 rfl
  have h12 : (((((((((((((W.setCell ⟨k, 0, none⟩ v0).setCell ⟨k, 1, none⟩ v1).setCell ⟨k, 2, none⟩ v2).setCell ⟨k, 3, none⟩ v3).setCell ⟨k, 4, none⟩ v4).setCell ⟨k, 5, none⟩ v5).setCell ⟨k, 6, none⟩ v6).setCell ⟨k, 7, none⟩ v7).setCell ⟨k, 8, none⟩ v8).setCell ⟨k, 9, none⟩ v9).setCell ⟨k, 10, none⟩ v10).setCell ⟨k, 11, none⟩ v11).setCell ⟨k, 12, none⟩ v12).heap[k]? = some (.cells #[v0, v1, v2, v3, v4, v5, v6, v7, v8, v9, v10, v11, v12] t (0, 0)) := blk_set h11 rfl
  exact h12
theorem put13_kept {W : World} (k : Nat) (v0 v1 v2 v3 v4 v5 v6 v7 v8 v9 v10 v11 v12 : Value) : Kept W (put13 W k v0 v1 v2 v3 v4 v5 v6 v7 v8 v9 v10 v11 v12) (fun j => j = k) := by
  unfold put13
  iterate 12 (refine Kept.trans ?_ (kset _ _ _ _ rfl))
  exact kset _ _ _ _ rfl
set_option maxHeartbeats 1000000 in
theorem event_any (o : Opx) (bs xs : List Int) (hb : Rd w o.ba o.bn o.bc bs) (hs : RdI w o.sa o.sn o.sc xs) (hbn : o.bn ≤ 140737488351232) (hsn : o.sn ≤ 17592186043904) (hk1 : 20 < o.k) (hk2 : o.k ≤ 60) : Calls Try.prog 33 #[.agg o.cs] w fun e w' => ∃ gb cb gs cs, e = .returned (.agg (Ev.cs ⟨o.k - 20, o.p, o.q, o.n, some ⟨gb, 0, none⟩, o.bn, cb, some ⟨gs, 0, none⟩, o.sn, cs⟩)) ∧ Marked w' w.heap.size gb o.bn cb bs ∧ MarkedI w' w.heap.size gs o.sn cs xs ∧ Below w.heap.size w w' := by
  obtain ⟨i0, hi, hz0, hz1, hz2⟩ := info_parts info_i
  generalize hW : (w.alloc (.cells o.cs 46)).alloc (.cells #[.int .i64 0, .int .i64 0, .int .i64 0, .int .i64 0, .slice none 0 0, .int .i64 0, .int .i64 0, .int .i64 0, .int .i64 0, .string ⟨#[]⟩, .string ⟨#[]⟩, .string ⟨#[]⟩, .slice none 0 0] 90) = W
  have hbW : Below w.heap.size w W := by rw [← hW]; exact balloc (balloc (Below.refl _ w))
  have hWs : W.heap.size = w.heap.size + 1 + 1 := by rw [← hW]; simp
  have hblk : W.heap[w.heap.size]? = some (.cells o.cs 46 (0, 0)) := by rw [← hW]; exact blk_alloc (heap_alloc_new w _)
  have hblk2 : W.heap[w.heap.size + 1]? = some (.cells #[.int .i64 0, .int .i64 0, .int .i64 0, .int .i64 0, .slice none 0 0, .int .i64 0, .int .i64 0, .int .i64 0, .int .i64 0, .string ⟨#[]⟩, .string ⟨#[]⟩, .string ⟨#[]⟩, .slice none 0 0] 90 (0, 0)) := by
    rw [← hW]
    have := heap_alloc_new (w.alloc (.cells o.cs 46)) (.cells #[.int .i64 0, .int .i64 0, .int .i64 0, .int .i64 0, .slice none 0 0, .int .i64 0, .int .i64 0, .int .i64 0, .int .i64 0, .string ⟨#[]⟩, .string ⟨#[]⟩, .string ⟨#[]⟩, .slice none 0 0] 90)
    simpa using this
  obtain ⟨d0, d1, d2, d3, d4, d5⟩ := op_cells hblk
  have Hb : Hid (Below w.heap.size w W) := hbW
  have HB1 : Hid (W.heap[w.heap.size]? = some (.cells o.cs 46 (0, 0))) := hblk
  have HB2 : Hid (W.heap[w.heap.size + 1]? = some (.cells #[.int .i64 0, .int .i64 0, .int .i64 0, .int .i64 0, .slice none 0 0, .int .i64 0, .int .i64 0, .int .i64 0, .int .i64 0, .string ⟨#[]⟩, .string ⟨#[]⟩, .string ⟨#[]⟩, .slice none 0 0] 90 (0, 0))) := hblk2
  have HS : Hid (RdI W o.sa o.sn o.sc xs) := hs.still hbW
  have hxl := hs.1
  have HC : Hid (∀ w', Below w.heap.size w w' → Calls Try.prog 54 #[.slice o.ba o.bn o.bc] w' fun e w2 => ∃ g cap, e = .returned (.slice (some ⟨g, 0, none⟩) o.bn cap) ∧ Marked w2 w'.heap.size g o.bn cap bs ∧ Below w'.heap.size w' w2) := fun w' hb' => spare_any (hb.still hb') hbn
  unfold Opx.cs at hW ⊢
  have hW1 : w.heap.size + 1 < W.heap.size := by omega
  clear hbW hblk hblk2 hb hs hWs
  go_enter Try.func33, Try.ntmps33
  go_wp2_with (first
    | (at_builtin; go_loud (refine wpList_append_rd _ rfl _ _ 30 rfl W.heap.size 3 i0 (.int .i64 0) 8 Try.underlying30 hi hz0 hz1 hz2 rfl (.slice none 0 0) 0 [] rfl (row_nil _ _ _ _) _ _ _ (xs.map (Value.int .i64)) rfl HS.out.2.1 (by simpa using hxl) (HS.out.cells) (ints_one xs) ?c1 ?c2 (Nat.le_refl _) ?_))
    | fail)
  case c1 => unfold maxLen; omega
  case c2 => omega
  intro v' w2 hown' hgrow
  have HO : Hid (w2.ownsRow W.heap.size 3 1 v' o.sn (xs.map (Value.int .i64))) := by
    show World.ownsRow _ _ _ _ _ _ _
    simpa using hown'
  have HB : Hid (Below W.heap.size W w2) := (Below.refl _ W).grown hgrow (Nat.le_refl _) (fun k hk => by simp [Value.ownBlock] at hk)
  clear hown' hgrow
  go_wp2
  go_loopw [3, 4] (fun v i wr => ∃ k : Nat, k ≤ 64 ∧ i = .int .i64 k ∧ wr.ownsRow W.heap.size 3 1 v (o.sn + k) ((xs ++ mks k).map (Value.int .i64)) ∧ Below W.heap.size W wr) (fun _ i _ => 64 - (intOf i).toNat)
  case atStart => exact ⟨0, Nat.zero_le _, rfl, by simpa [mks] using HO.out, HB.out⟩
  case round =>
    obtain ⟨k, hk, rfl, ho, hb⟩ := hrel
    by_cases hlt : k < 64
    · have HO : Hid (wr.ownsRow W.heap.size 3 1 u3 (o.sn + k) ((xs ++ mks k).map (Value.int .i64))) := ho
      have HB : Hid (Below W.heap.size W wr) := hb
      have hws := hb.size
      have i1 : (0 : Int) ≤ (k : Int) := Int.natCast_nonneg _
      have i2 : (k : Int) < 64 := by omega
      have Hmk : Hid ((xs ++ mks (k + 1)).map (Value.int .i64) = (xs ++ mks k).map (Value.int .i64) ++ [.int .i64 (700 + (k : Int))]) := by
        show _ = _
        rw [mks_succ]; simp
      generalize (xs ++ mks k).map (Value.int .i64) = T at HO Hmk
      clear ho hb
      go_wp2_with (first
        | (at_builtin; refine wpList_append_lies _ rfl _ _ 30 rfl W.heap.size 3 i0 (.int .i64 0) 1 8 Try.underlying30 hi hz0 hz1 hz2 rfl (by omega) u3 (o.sn + k) T rfl (World.ownsRow.alloc HO.out _) _ 1 1 _ rfl rfl (World.news_of_block (heap_alloc_new _ _)) (by simp [Value.oneCell']) (by omega) (by unfold maxLen; omega) (by omega) (by simp; omega) _ rfl ?_; intro g3 cap3 w3 hown3 hgrow3 hat3 hlt3)
        | fail)
      have hb3 : Below W.heap.size W w3 := (balloc HB.out).grown hgrow3 (by simp; omega) (fun q hq => (World.ownsRow.lt HO.out q hq).1)
      clear hgrow3 hat3
      first
        | exact ⟨⟨k + 1, by omega, by go_num, by rw [Hmk.out, ← Nat.add_assoc]; simpa using hown3, hb3⟩, by simp [intOf]; omega⟩
        | (go_roundw
           case rel => exact ⟨k + 1, by omega, by go_num, by rw [Hmk.out, ← Nat.add_assoc]; simpa using hown3, hb3⟩
           case measure => simp [intOf]; omega)
    · obtain rfl : k = 64 := by omega
      rcases ho.2 with ⟨h1, h2⟩ | ⟨gs, cs, cur, hv, hg1, hg2, hnc, _⟩
      · omega
      · subst hv
        have i1 : (0 : Int) ≤ (o.sn : Int) := Int.natCast_nonneg _
        have i2 : (o.sn : Int) ≤ (cs : Int) := by omega
        have HO : Hid (MarkedI wr W.heap.size gs o.sn cs xs) := ho
        have HBw : Hid (Below W.heap.size W wr) := hb
        have HBx : Hid (Below w.heap.size w wr) := bstep Hb.out hb
        obtain ⟨d0, d1, d2, d3, d4, d5⟩ := op_cells ((hb.block _ (by omega)).trans HB1.out)
        have HZ : Hid (wr.heap[w.heap.size + 1]? = some (.cells #[.int .i64 0, .int .i64 0, .int .i64 0, .int .i64 0, .slice none 0 0, .int .i64 0, .int .i64 0, .int .i64 0, .int .i64 0, .string ⟨#[]⟩, .string ⟨#[]⟩, .string ⟨#[]⟩, .slice none 0 0] 90 (0, 0))) := (hb.block _ (by omega)).trans HB2.out
        have hws := hb.size
        have hwk : IntKind.i64.wrap (o.k - 20) = o.k - 20 := wrap_id (by omega) (by omega)
        clear ho hg2 hb
        go_wp2
        refine wp_region_held_drew (S := (fun w' => w'.cell? ⟨w.heap.size, 0, none⟩ = some (.int .i64 o.k) ∧ w'.cell? ⟨w.heap.size, 1, none⟩ = some (.int .i64 o.p) ∧ w'.cell? ⟨w.heap.size, 2, none⟩ = some (.int .i64 o.q) ∧ w'.cell? ⟨w.heap.size, 3, none⟩ = some (.int .i64 o.n) ∧ w'.cell? ⟨w.heap.size, 4, none⟩ = some (.slice o.ba o.bn o.bc) ∧ w'.cell? ⟨w.heap.size, 5, none⟩ = some (.slice o.sa o.sn o.sc))) (by kernel_rfl) ⟨d0, d1, d2, d3, d4, d5⟩ (fun hHeld => ?_)
        simp only [Act.put, List.size_toArray, List.length_cons, List.length_nil, Nat.zero_add]
        refine wpAnyH_take (i := 0) (v := .pointer (some ⟨w.heap.size, 0, none⟩)) rfl (by kernel_rfl) (by kernel_rfl) (by kernel_rfl) (fun _ _ _ h => h) (Or.inl ⟨by rfl, fun w' hS => by go_simp⟩) hHeld ?_
        simp only [Act.put, List.getElem_toArray, List.getElem_cons_zero, List.getElem_cons_succ, List.setIfInBounds_toArray, List.set_cons_zero, List.set_cons_succ]
        refine wpAnyH_take (i := 1) (v := .int .i64 o.k) rfl (by kernel_rfl) (by kernel_rfl) (by kernel_rfl) (fun _ _ _ h => h) (Or.inl ⟨by rfl, fun w' hS => by (obtain ⟨s0, s1, s2, s3, s4, s5⟩ := hS; go_simp)⟩) hHeld ?_
        simp only [Act.put, List.getElem_toArray, List.getElem_cons_zero, List.getElem_cons_succ, List.setIfInBounds_toArray, List.set_cons_zero, List.set_cons_succ]
        refine wpAnyH_take (i := 2) (v := .int .i64 (o.k - 20)) rfl (by kernel_rfl) (by kernel_rfl) (by kernel_rfl) (fun _ _ _ h => h) (Or.inl ⟨by rfl, fun w' hS => by go_simp⟩) hHeld ?_
        simp only [Act.put, List.getElem_toArray, List.getElem_cons_zero, List.getElem_cons_succ, List.setIfInBounds_toArray, List.set_cons_zero, List.set_cons_succ]
        refine wpAnyH_take (i := 3) (v := .pointer (some ⟨w.heap.size, 1, none⟩)) rfl (by kernel_rfl) (by kernel_rfl) (by kernel_rfl) (fun _ _ _ h => h) (Or.inl ⟨by rfl, fun w' hS => by go_simp⟩) hHeld ?_
        simp only [Act.put, List.getElem_toArray, List.getElem_cons_zero, List.getElem_cons_succ, List.setIfInBounds_toArray, List.set_cons_zero, List.set_cons_succ]
        refine wpAnyH_take (i := 4) (v := .int .i64 o.p) rfl (by kernel_rfl) (by kernel_rfl) (by kernel_rfl) (fun _ _ _ h => h) (Or.inl ⟨by rfl, fun w' hS => by (obtain ⟨s0, s1, s2, s3, s4, s5⟩ := hS; go_simp)⟩) hHeld ?_
        simp only [Act.put, List.getElem_toArray, List.getElem_cons_zero, List.getElem_cons_succ, List.setIfInBounds_toArray, List.set_cons_zero, List.set_cons_succ]
        refine wpAnyH_take (i := 5) (v := .pointer (some ⟨w.heap.size, 2, none⟩)) rfl (by kernel_rfl) (by kernel_rfl) (by kernel_rfl) (fun _ _ _ h => h) (Or.inl ⟨by rfl, fun w' hS => by go_simp⟩) hHeld ?_
        simp only [Act.put, List.getElem_toArray, List.getElem_cons_zero, List.getElem_cons_succ, List.setIfInBounds_toArray, List.set_cons_zero, List.set_cons_succ]
        refine wpAnyH_take (i := 6) (v := .int .i64 o.q) rfl (by kernel_rfl) (by kernel_rfl) (by kernel_rfl) (fun _ _ _ h => h) (Or.inl ⟨by rfl, fun w' hS => by (obtain ⟨s0, s1, s2, s3, s4, s5⟩ := hS; go_simp)⟩) hHeld ?_
        simp only [Act.put, List.getElem_toArray, List.getElem_cons_zero, List.getElem_cons_succ, List.setIfInBounds_toArray, List.set_cons_zero, List.set_cons_succ]
        refine wpAnyH_take (i := 7) (v := .pointer (some ⟨w.heap.size, 3, none⟩)) rfl (by kernel_rfl) (by kernel_rfl) (by kernel_rfl) (fun _ _ _ h => h) (Or.inl ⟨by rfl, fun w' hS => by go_simp⟩) hHeld ?_
        simp only [Act.put, List.getElem_toArray, List.getElem_cons_zero, List.getElem_cons_succ, List.setIfInBounds_toArray, List.set_cons_zero, List.set_cons_succ]
        refine wpAnyH_take (i := 8) (v := .int .i64 o.n) rfl (by kernel_rfl) (by kernel_rfl) (by kernel_rfl) (fun _ _ _ h => h) (Or.inl ⟨by rfl, fun w' hS => by (obtain ⟨s0, s1, s2, s3, s4, s5⟩ := hS; go_simp)⟩) hHeld ?_
        simp only [Act.put, List.getElem_toArray, List.getElem_cons_zero, List.getElem_cons_succ, List.setIfInBounds_toArray, List.set_cons_zero, List.set_cons_succ]
        refine wpAnyH_take (i := 9) (v := .pointer (some ⟨w.heap.size, 4, none⟩)) rfl (by kernel_rfl) (by kernel_rfl) (by kernel_rfl) (fun _ _ _ h => h) (Or.inl ⟨by rfl, fun w' hS => by go_simp⟩) hHeld ?_
        simp only [Act.put, List.getElem_toArray, List.getElem_cons_zero, List.getElem_cons_succ, List.setIfInBounds_toArray, List.set_cons_zero, List.set_cons_succ]
        refine wpAnyH_take (i := 10) (v := .slice o.ba o.bn o.bc) rfl (by kernel_rfl) (by kernel_rfl) (by kernel_rfl) (fun _ _ _ h => h) (Or.inl ⟨by rfl, fun w' hS => by (obtain ⟨s0, s1, s2, s3, s4, s5⟩ := hS; go_simp)⟩) hHeld ?_
        simp only [Act.put, List.getElem_toArray, List.getElem_cons_zero, List.getElem_cons_succ, List.setIfInBounds_toArray, List.set_cons_zero, List.set_cons_succ]
        refine wpAnyH_take (i := 12) (v := .slice (some ⟨gs, 0, none⟩) (o.sn + 64) cs) rfl (by kernel_rfl) (by kernel_rfl) (by kernel_rfl) (fun _ _ _ h => h) (Or.inl ⟨by rfl, fun w' hS => by go_simp⟩) hHeld ?_
        simp only [Act.put, List.getElem_toArray, List.getElem_cons_zero, List.getElem_cons_succ, List.setIfInBounds_toArray, List.set_cons_zero, List.set_cons_succ]
        refine wpAnyH_take (i := 13) (v := .pointer (some ⟨w.heap.size, 5, none⟩)) rfl (by kernel_rfl) (by kernel_rfl) (by kernel_rfl) (fun _ _ _ h => h) (Or.inl ⟨by rfl, fun w' hS => by go_simp⟩) hHeld ?_
        simp only [Act.put, List.getElem_toArray, List.getElem_cons_zero, List.getElem_cons_succ, List.setIfInBounds_toArray, List.set_cons_zero, List.set_cons_succ]
        refine wpAnyH_take (i := 14) (v := .slice o.sa o.sn o.sc) rfl (by kernel_rfl) (by kernel_rfl) (by kernel_rfl) (fun _ _ _ h => h) (Or.inl ⟨by rfl, fun w' hS => by (obtain ⟨s0, s1, s2, s3, s4, s5⟩ := hS; go_simp)⟩) hHeld ?_
        simp only [Act.put, List.getElem_toArray, List.getElem_cons_zero, List.getElem_cons_succ, List.setIfInBounds_toArray, List.set_cons_zero, List.set_cons_succ]
        refine wpAnyH_take (i := 15) (v := .int .i64 (o.sn : Int)) rfl (by kernel_rfl) (by kernel_rfl) (by kernel_rfl) (fun _ _ _ h => h) (Or.inl ⟨by rfl, fun w' hS => by go_simp⟩) hHeld ?_
        simp only [Act.put, List.getElem_toArray, List.getElem_cons_zero, List.getElem_cons_succ, List.setIfInBounds_toArray, List.set_cons_zero, List.set_cons_succ]
        refine wpAnyH_take (i := 16) (v := .slice (some ⟨gs, 0, none⟩) o.sn cs) rfl (by kernel_rfl) (by kernel_rfl) (by kernel_rfl) (fun _ _ _ h => h) (Or.inl ⟨by rfl, fun w' hS => by go_simp⟩) hHeld ?_
        simp only [Act.put, List.getElem_toArray, List.getElem_cons_zero, List.getElem_cons_succ, List.setIfInBounds_toArray, List.set_cons_zero, List.set_cons_succ]
        refine wpAnyH_ready (rs := [11]) (by kernel_rfl) (by simp) ?_
        refine AllReadyH.cons rfl (fun K hK => ?_) AllReadyH.nil
        go_simp
        refine (HC.out _ (by repeat (first | exact HBx.out | apply Below.drew))).mono ?_
        rintro e w2 ⟨gb, cb, rfl, hmk, hb2⟩
        have B2 : Below wr.heap.size wr w2 := bstep (by repeat (first | exact Below.refl _ _ | apply Below.drew)) hb2
        have t0 := below_at B2 d0
        have t1 := below_at B2 d1
        have t2 := below_at B2 d2
        have t3 := below_at B2 d3
        have t4 := below_at B2 d4
        have t5 := below_at B2 d5
        refine hK.out _ _ ⟨t0, t1, t2, t3, t4, t5⟩ (fun hHeld => ?_)
        clear hK K
        have z0 := (B2.block _ (by omega)).trans HZ.out
        have c0 : w2.cell? ⟨w.heap.size + 1, 0, none⟩ = some (.int .i64 0) := blk_cell z0 0
        have f0 : w2.frozen? ⟨w.heap.size + 1, 0, none⟩ = false := frozen_of_row w2 _ 0 _ _ z0
        have c1 : w2.cell? ⟨w.heap.size + 1, 1, none⟩ = some (.int .i64 0) := blk_cell z0 1
        have f1 : w2.frozen? ⟨w.heap.size + 1, 1, none⟩ = false := frozen_of_row w2 _ 1 _ _ z0
        have c2 : w2.cell? ⟨w.heap.size + 1, 2, none⟩ = some (.int .i64 0) := blk_cell z0 2
        have f2 : w2.frozen? ⟨w.heap.size + 1, 2, none⟩ = false := frozen_of_row w2 _ 2 _ _ z0
        have c3 : w2.cell? ⟨w.heap.size + 1, 3, none⟩ = some (.int .i64 0) := blk_cell z0 3
        have f3 : w2.frozen? ⟨w.heap.size + 1, 3, none⟩ = false := frozen_of_row w2 _ 3 _ _ z0
        have c4 : w2.cell? ⟨w.heap.size + 1, 4, none⟩ = some (.slice none 0 0) := blk_cell z0 4
        have f4 : w2.frozen? ⟨w.heap.size + 1, 4, none⟩ = false := frozen_of_row w2 _ 4 _ _ z0
        have c5 : w2.cell? ⟨w.heap.size + 1, 5, none⟩ = some (.int .i64 0) := blk_cell z0 5
        have f5 : w2.frozen? ⟨w.heap.size + 1, 5, none⟩ = false := frozen_of_row w2 _ 5 _ _ z0
        have c6 : w2.cell? ⟨w.heap.size + 1, 6, none⟩ = some (.int .i64 0) := blk_cell z0 6
        have f6 : w2.frozen? ⟨w.heap.size + 1, 6, none⟩ = false := frozen_of_row w2 _ 6 _ _ z0
        have c7 : w2.cell? ⟨w.heap.size + 1, 7, none⟩ = some (.int .i64 0) := blk_cell z0 7
        have f7 : w2.frozen? ⟨w.heap.size + 1, 7, none⟩ = false := frozen_of_row w2 _ 7 _ _ z0
        have c8 : w2.cell? ⟨w.heap.size + 1, 8, none⟩ = some (.int .i64 0) := blk_cell z0 8
        have f8 : w2.frozen? ⟨w.heap.size + 1, 8, none⟩ = false := frozen_of_row w2 _ 8 _ _ z0
        have c9 : w2.cell? ⟨w.heap.size + 1, 9, none⟩ = some (.string ⟨#[]⟩) := blk_cell z0 9
        have f9 : w2.frozen? ⟨w.heap.size + 1, 9, none⟩ = false := frozen_of_row w2 _ 9 _ _ z0
        have c10 : w2.cell? ⟨w.heap.size + 1, 10, none⟩ = some (.string ⟨#[]⟩) := blk_cell z0 10
        have f10 : w2.frozen? ⟨w.heap.size + 1, 10, none⟩ = false := frozen_of_row w2 _ 10 _ _ z0
        have c11 : w2.cell? ⟨w.heap.size + 1, 11, none⟩ = some (.string ⟨#[]⟩) := blk_cell z0 11
        have f11 : w2.frozen? ⟨w.heap.size + 1, 11, none⟩ = false := frozen_of_row w2 _ 11 _ _ z0
        have c12 : w2.cell? ⟨w.heap.size + 1, 12, none⟩ = some (.slice none 0 0) := blk_cell z0 12
        have f12 : w2.frozen? ⟨w.heap.size + 1, 12, none⟩ = false := frozen_of_row w2 _ 12 _ _ z0
        refine wpAnyH_take (i := 17) (v := .agg #[.int .i64 (o.k - 20), .int .i64 o.p, .int .i64 o.q, .int .i64 o.n, .slice (some ⟨gb, 0, none⟩) o.bn cb, .int .i64 0, .int .i64 0, .int .i64 0, .int .i64 0, .string ⟨#[]⟩, .string ⟨#[]⟩, .string ⟨#[]⟩, .slice (some ⟨gs, 0, none⟩) o.sn cs]) rfl (by kernel_rfl) (by kernel_rfl) (by kernel_rfl) (fun _ _ _ h => h) (Or.inl ⟨by rfl, fun w' hS => by go_simp⟩) hHeld ?_
        simp only [Act.put, List.getElem_toArray, List.getElem_cons_zero, List.getElem_cons_succ, List.setIfInBounds_toArray, List.set_cons_zero, List.set_cons_succ]
        refine wpAnyH_ready (rs := [18]) (by kernel_rfl) (by simp) ?_
        refine AllReadyH.cons rfl (fun K hK => ?_) AllReadyH.nil
        go_simp
        have hfar : ∀ {i : Nat} {u : Value}, w2.cell? ⟨w.heap.size, i, none⟩ = some u → w2.cell? ⟨w.heap.size, i, none⟩ = some u := fun h => h
        refine hK.out _ _ ⟨?_, ?_, ?_, ?_, ?_, ?_⟩ (fun hHeld => ?_)
        iterate 6 (iterate 13 refine set_far ?_ (by omega)); first | exact t0 | exact t1 | exact t2 | exact t3 | exact t4 | exact t5
        clear hK K
        refine wpAnyH_done (by kernel_rfl) ?_ _
        clear hHeld
        rw [put13_eq]
        have zz := put13_blk (.int .i64 (o.k - 20)) (.int .i64 o.p) (.int .i64 o.q) (.int .i64 o.n) (.slice (some ⟨gb, 0, none⟩) o.bn cb) (.int .i64 0) (.int .i64 0) (.int .i64 0) (.int .i64 0) (.string ⟨#[]⟩) (.string ⟨#[]⟩) (.string ⟨#[]⟩) (.slice (some ⟨gs, 0, none⟩) o.sn cs) z0
        have kp := put13_kept (W := w2) (w.heap.size + 1) (.int .i64 (o.k - 20)) (.int .i64 o.p) (.int .i64 o.q) (.int .i64 o.n) (.slice (some ⟨gb, 0, none⟩) o.bn cb) (.int .i64 0) (.int .i64 0) (.int .i64 0) (.int .i64 0) (.string ⟨#[]⟩) (.string ⟨#[]⟩) (.string ⟨#[]⟩) (.slice (some ⟨gs, 0, none⟩) o.sn cs)
        have hX1 : Marked (put13 w2 (w.heap.size + 1) (.int .i64 (o.k - 20)) (.int .i64 o.p) (.int .i64 o.q) (.int .i64 o.n) (.slice (some ⟨gb, 0, none⟩) o.bn cb) (.int .i64 0) (.int .i64 0) (.int .i64 0) (.int .i64 0) (.string ⟨#[]⟩) (.string ⟨#[]⟩) (.string ⟨#[]⟩) (.slice (some ⟨gs, 0, none⟩) o.sn cs)) w.heap.size gb o.bn cb bs := kp.owns (own_lower hmk (by have := HBx.out.size; simpa using this)) (fun j hj e => by have := (World.ownsRow.lt hmk j hj).1; simp at this; omega)
        have hX2 : MarkedI (put13 w2 (w.heap.size + 1) (.int .i64 (o.k - 20)) (.int .i64 o.p) (.int .i64 o.q) (.int .i64 o.n) (.slice (some ⟨gb, 0, none⟩) o.bn cb) (.int .i64 0) (.int .i64 0) (.int .i64 0) (.int .i64 0) (.string ⟨#[]⟩) (.string ⟨#[]⟩) (.string ⟨#[]⟩) (.slice (some ⟨gs, 0, none⟩) o.sn cs)) w.heap.size gs o.sn cs xs := kp.owns (own_lower (own_still HO.out B2) (by omega)) (fun j hj e => by have := (World.ownsRow.lt HO.out j hj).1; omega)
        have hX3 : Below w.heap.size w (put13 w2 (w.heap.size + 1) (.int .i64 (o.k - 20)) (.int .i64 o.p) (.int .i64 o.q) (.int .i64 o.n) (.slice (some ⟨gb, 0, none⟩) o.bn cb) (.int .i64 0) (.int .i64 0) (.int .i64 0) (.int .i64 0) (.string ⟨#[]⟩) (.string ⟨#[]⟩) (.string ⟨#[]⟩) (.slice (some ⟨gs, 0, none⟩) o.sn cs)) := (bstep HBx.out B2).trans (kp.below (by have := HBx.out.size; have := B2.size; omega) (fun j hj e => by omega))
        generalize put13 w2 (w.heap.size + 1) (.int .i64 (o.k - 20)) (.int .i64 o.p) (.int .i64 o.q) (.int .i64 o.n) (.slice (some ⟨gb, 0, none⟩) o.bn cb) (.int .i64 0) (.int .i64 0) (.int .i64 0) (.int .i64 0) (.string ⟨#[]⟩) (.string ⟨#[]⟩) (.string ⟨#[]⟩) (.slice (some ⟨gs, 0, none⟩) o.sn cs) = X at zz hX1 hX2 hX3 ⊢
        have q0 := blk_cell zz 0
        have q1 := blk_cell zz 1
        have q2 := blk_cell zz 2
        have q3 := blk_cell zz 3
        have q4 := blk_cell zz 4
        have q5 := blk_cell zz 5
        have q6 := blk_cell zz 6
        have q7 := blk_cell zz 7
        have q8 := blk_cell zz 8
        have q9 := blk_cell zz 9
        have q10 := blk_cell zz 10
        have q11 := blk_cell zz 11
        have q12 := blk_cell zz 12
        simp only [List.getElem?_toArray, List.getElem?_cons_zero, List.getElem?_cons_succ] at q0 q1 q2 q3 q4 q5 q6 q7 q8 q9 q10 q11 q12
        clear z0 c0 c1 c2 c3 c4 c5 c6 c7 c8 c9 c10 c11 c12 f0 f1 f2 f3 f4 f5 f6 f7 f8 f9 f10 f11 f12 t0 t1 t2 t3 t4 t5 d0 d1 d2 d3 d4 d5 zz kp
        go_wp2
        exact bodyPost_ret (v := .agg #[.int .i64 (o.k - 20), .int .i64 o.p, .int .i64 o.q, .int .i64 o.n, .slice (some ⟨gb, 0, none⟩) o.bn cb, .int .i64 0, .int .i64 0, .int .i64 0, .int .i64 0, .string ⟨#[]⟩, .string ⟨#[]⟩, .string ⟨#[]⟩, .slice (some ⟨gs, 0, none⟩) o.sn cs]) (by simp [results, Try.results33, go_sem, q0, q1, q2, q3, q4, q5, q6, q7, q8, q9, q10, q11, q12]) rfl ⟨gb, cb, gs, cs, rfl, hX1, hX2, hX3⟩
end
end Go.Proofs.Ytnhhjelplmdloaa.Et
namespace Go.Proofs.Ytnhhjelplmdloaa.Et
open Go.RowKit Go.Maps
set_option linter.unusedVariables false
set_option linter.unusedSimpArgs false
set_option maxRecDepth 100000
section
variable {E E' : En} {R R' : Rn} {w w' w1 w2 w3 : World} {B K m : Nat}
def PE (fE : Nat) (aE : Array Value) (E : En) (w : World) (B K : Nat) (X : Value) (C : En → Prop) : Prop :=
  ∀ w', Below w.heap.size w w' → Calls Try.prog fE aE w' fun e w1 => e = .returned X ∧ ∃ E1 m1, Step w' w1 E E1 B m1 ∧ m1 ≤ 256 * (K + 1) ∧ C E1
theorem Step.low (s : Step w w1 E E' B m) (hE : E.Ok w B m) (hB : B ≤ w.heap.size) : Below B w w1 := s.kept.below hB (fun k hk ho => by have := hE.geOwn ho; omega)
theorem Step.none (h : E.Ok w B m) (hb : Below w.heap.size w w') : Step w w' E E B m := (Step.same h).post hb
theorem calls_same {f : Nat} {a : Array Value} {X : Value} (h : Calls Try.prog f a w fun e w' => e = .returned X ∧ w = w') : Calls Try.prog f a w fun e w' => e = .returned X ∧ Below w.heap.size w w' := h.mono fun e w1 ⟨x1, x2⟩ => ⟨x1, by subst x2; exact Below.refl _ _⟩
theorem Sim.nq (s : Sim E R K) (p : Int) : rN R p = isN E p := by unfold rN isN; rw [s.nn]
theorem Sim.pq (s : Sim E R K) (p q : Int) : rP R p q = isP E p q := by unfold rP isP; rw [s.nq, s.nq]
theorem Sim.ck (s : Sim E R K) (p : Int) : rCk R p = ckUp E p := by
  unfold rCk ckUp
  rw [s.nq]
  cases h : isN E p with
  | false => rfl
  | true =>
    obtain ⟨h0, h1⟩ := isN_true h
    rw [(s.nod p.toNat (by omega)).1]
theorem Sim.rst (s : Sim E R K) (p : Int) : rRst R p = rstE E p := by
  unfold rRst rstE
  rw [s.nq]
  cases h : isN E p with
  | false => rfl
  | true =>
    obtain ⟨h0, h1⟩ := isN_true h
    rw [(s.nod p.toNat (by omega)).1]
def aN (b : Nat) (p : Int) : Array Value := #[.pointer (some ⟨b, 0, none⟩), .int .i64 p]
theorem rstE_zero {p : Int} (h : rstE E p = 0) : ∃ k : Nat, p = k ∧ k < E.nn ∧ E.up k = false := by
  unfold rstE at h
  split at h
  · next hn =>
    obtain ⟨h0, h1⟩ := isN_true hn
    split at h
    · omega
    · next hu => exact ⟨p.toNat, by omega, by omega, by simpa using hu⟩
  · omega
end
end Go.Proofs.Ytnhhjelplmdloaa.Et
namespace Go.Proofs.Ytnhhjelplmdloaa.Et
open Go.RowKit Go.Maps
set_option linter.unusedVariables false
set_option linter.unusedSimpArgs false
set_option maxRecDepth 100000
section
variable {E E' : En} {R R' : Rn} {w w' w1 w2 w3 : World} {B K m : Nat}
theorem kcell {W w1 : World} {P : Nat → Prop} {k i : Nat} {v : Value} (hk : Kept W w1 P) (hc : W.cell? ⟨k, i, none⟩ = some v) (hp : ¬ P k) : w1.cell? ⟨k, i, none⟩ = some v :=
  (World.cell?_of_block (w := W) (hk.block k (World.block_lt_of_cell? W _ hc) hp)).trans hc
theorem Sim.upq (s : Sim E R K) (p : Int) : (rN R p && R.up p.toNat) = (isN E p && E.up p.toNat) := by
  rw [s.nq]
  cases hn : isN E p with
  | false => rfl
  | true =>
    obtain ⟨h0, h1⟩ := isN_true hn
    rw [(s.nod p.toNat (by omega)).1]
theorem Sim.incq (s : Sim E R K) (p : Int) : (if rN R p then R.inc p.toNat else 0) = (if isN E p then E.inc p.toNat else 0) := by
  rw [s.nq]
  cases hn : isN E p with
  | false => rfl
  | true =>
    obtain ⟨h0, h1⟩ := isN_true hn
    rw [(s.nod p.toNat (by omega)).2.1]
theorem Sim.tickq (s : Sim E R K) (p : Int) : (if rN R p then R.tick p.toNat else 0) = (if isN E p then E.tick p.toNat else 0) := by
  rw [s.nq]
  cases hn : isN E p with
  | false => rfl
  | true =>
    obtain ⟨h0, h1⟩ := isN_true hn
    rw [(s.nod p.toNat (by omega)).2.2]
theorem Sim.openq (s : Sim E R K) (p q : Int) : (rP R p q && !R.shut p.toNat q.toNat) = (isP E p q && !E.cut p.toNat q.toNat) := by
  rw [s.pq]
  cases hn : isP E p q with
  | false => rfl
  | true =>
    obtain ⟨a, b, rfl, rfl, ha, hb, hab⟩ := isP_true hn
    rw [(s.pat _ _ (by simpa using ha) (by simpa using hb) (by simpa using hab)).1]
theorem Sim.delayq (s : Sim E R K) (p q : Int) : (if rP R p q then R.slow p.toNat q.toNat else 0) = (if isP E p q then E.dl p.toNat q.toNat else 0) := by
  rw [s.pq]
  cases hn : isP E p q with
  | false => rfl
  | true =>
    obtain ⟨a, b, rfl, rfl, ha, hb, hab⟩ := isP_true hn
    rw [(s.pat _ _ (by simpa using ha) (by simpa using hb) (by simpa using hab)).2]
end
end Go.Proofs.Ytnhhjelplmdloaa.Et
namespace Go.Proofs.Ytnhhjelplmdloaa.Et
open Go.RowKit Go.Maps
set_option linter.unusedVariables false
set_option linter.unusedSimpArgs false
set_option maxRecDepth 100000
section
variable {E E' : En} {w w' W w1 wr wr' : World} {B B0 m g k : Nat} {L : List Value} {av : Value}
def RdO (B0 B : Nat) (E : En) (w : World) (a : Option Addr) (n c : Nat) (ds : List Fd) : Prop := ∃ L : List Fx, L.Sublist E.fs ∧ L.map Fx.d = ds ∧ L.length = n ∧ w.ownsRow B0 43 5 (.slice a n c) n (flCells L) ∧ ∀ f ∈ L, f.byt w B
theorem RdO.rdf {a : Option Addr} {n c : Nat} {ds : List Fd} (h : RdO B0 B E w a n c ds) : RdF w a n ds := by
  obtain ⟨L, h1, h2, h3, h4, h5⟩ := h
  exact ⟨L, h2, h3, fun f hf => (h5 f hf).rd, row_cells h4 h3⟩
theorem RdO.keep {P : Nat → Prop} {a : Option Addr} {n c : Nat} {ds : List Fd} (h : RdO B0 B E w a n c ds) (k : Kept w w' P) (h0 : ∀ j, B0 ≤ j → ¬ P j) (h1 : ∀ j, E.own j → ¬ P j) : RdO B0 B E w' a n c ds := by
  obtain ⟨L, h2, h3, h4, h5, h6⟩ := h
  exact ⟨L, h2, h3, h4, k.owns h5 (fun j hj => h0 j (World.ownsRow.lt h5 j hj).1), fun f hf => (h6 f hf).keep k (fun j hj => h1 j (.inr (.inr (.inr (.inr (.inr ⟨f, h2.subset hf, hj⟩))))))⟩
theorem RI.last2 {WC : World} {L' : List Value} (h0 : E.Ok w B m) (h : RI w wr E B m g k L av) (hva : (Value.slice E.va E.fs.length E.vc).ownBlock = some g) (hBg : B ≤ g) (hvc : E.vc ≤ maxLen) (hfk : (lefts E k).length ≤ E.vc) (kc : Kept wr WC (fun j => j = g)) (hg : WC.heap[g]? = some (.cells L'.toArray 43 (0, 0))) (hl : L'.length = E.vc * 5) (ht : L'.take ((lefts E k).length * 5) = flCells (lefts E k)) :
    Step w (WC.setCell ⟨E.b, 6, none⟩ (.slice (some ⟨g, 0, none⟩) (lefts E k).length E.vc)) E { E with clock := ckN E, va := some ⟨g, 0, none⟩, fs := lefts E k } B m ∧
    (∃ a n c, av = .slice a n c ∧ RdO w.heap.size B E (WC.setCell ⟨E.b, 6, none⟩ (.slice (some ⟨g, 0, none⟩) (lefts E k).length E.vc)) a n c ((arrs E k).map Fx.d) ∧ n = (arrs E k).length) := by
  have hgr := h0.row_ne hva
  have hko := h.ko.keep kc h.core
  have ks : Kept WC (WC.setCell ⟨E.b, 6, none⟩ (.slice (some ⟨g, 0, none⟩) (lefts E k).length E.vc)) (fun j => j = E.b) := kset WC E.b 6 _ rfl
  have k4 : Kept w (WC.setCell ⟨E.b, 6, none⟩ (.slice (some ⟨g, 0, none⟩) (lefts E k).length E.vc)) (fun j => j = g ∨ j = E.b) := (h.kept.trans (kc.mono (fun _ _ e => .inl e))).trans (ks.mono (fun _ _ e => .inr e))
  have kr : Kept wr (WC.setCell ⟨E.b, 6, none⟩ (.slice (some ⟨g, 0, none⟩) (lefts E k).length E.vc)) (fun j => j = g ∨ j = E.b) := (kc.mono (fun _ _ e => .inl e)).trans (ks.mono (fun _ _ e => .inr e))
  have hsub := lefts_sub E k
  have hbyt : ∀ f ∈ E.fs, f.byt (WC.setCell ⟨E.b, 6, none⟩ (.slice (some ⟨g, 0, none⟩) (lefts E k).length E.vc)) B := fun f hf => (h.byt f hf).keep kr (fun j hj e => by
    rcases e with e | e
    · exact (h0.byt_ne hf hj).2.2.2.2 (by rw [e]; exact hva)
    · exact (h0.byt_ne hf hj).1 e)
  refine ⟨⟨⟨?_, ?_, ?_, ?_, ⟨?_, ?_, ?_⟩, h0.ge, h0.ne, h0.n16, ?_, h0.dly⟩, ?_, ?_⟩, ?_⟩
  · have := blk_set (i := 6) (v := .slice (some ⟨g, 0, none⟩) (lefts E k).length E.vc) hko.blk rfl
    rw [this]
    simp [En.cs]
  · exact hko.nod.keep ks (fun e => h0.b_bn e.symm)
  · exact hko.cut.keep ks (fun e => h0.b_bc e.symm)
  · exact hko.del.keep ks (fun e => h0.b_bd e.symm)
  · exact own_set (list_row hBg hg hl ht hfk hvc) (by simp [Value.ownBlock]; exact hgr.1)
  · exact fun f hf => hbyt f (hsub.subset hf)
  · exact h0.fls.apt.sublist hsub
  · exact fun f hf => h0.pth f (hsub.subset hf)
  · exact k4.mono (fun j _ e => e.elim (fun e => .inr (.inr (.inr (.inr (.inl (by rw [e]; exact hva)))))) (fun e => .inl e))
  · intro j hj
    left
    rcases hj with e | e | e | e | e | ⟨x, hx, e⟩
    · exact .inl e
    · exact .inr (.inl e)
    · exact .inr (.inr (.inl e))
    · exact .inr (.inr (.inr (.inl e)))
    · simp [Value.ownBlock] at e
      exact .inr (.inr (.inr (.inr (.inl (by rw [hva, e])))))
    · exact .inr (.inr (.inr (.inr (.inr ⟨x, hsub.subset hx, e⟩))))
  · have hg0 : g < w.heap.size := by
      obtain ⟨cur, hc⟩ := row_ty h0.fls.row hva
      exact lt_heap hc
    have hb0 := lt_heap h0.blk
    have ho := kr.owns h.arr (fun j hj e => by
      have := (World.ownsRow.lt h.arr j hj).1
      rcases e with e | e <;> omega)
    obtain ⟨a, c, hav⟩ : ∃ a c, av = Value.slice a (arrs E k).length c := by
      rcases h.arr.2 with ⟨h3, h4⟩ | ⟨g', cap, cur, hv, _⟩
      · exact ⟨none, 0, by rw [h4]; exact h3⟩
      · exact ⟨_, _, hv⟩
    subst hav
    exact ⟨a, _, c, rfl, ⟨arrs E k, arrs_sub E k, rfl, rfl, ho, fun f hf => hbyt f ((arrs_sub E k).subset hf)⟩, rfl⟩
set_option maxHeartbeats 1000000 in
theorem round_cons2 (h : E.Ok w B m) (hB : B ≤ w.heap.size) (hpos : 0 < E.fs.length) (hlen : E.fs.length ≤ 20000) : Calls Try.prog 9 #[.pointer (some ⟨E.b, 0, none⟩)] w fun e w' => ∃ a n c, e = .returned (.slice a n c) ∧ RdO w.heap.size B E w' a n c ((E.fs.filter (comes E)).map Fx.d) ∧ Step w w' E { E with clock := ckN E, fs := E.fs.filter (stays E) } B m := by
  obtain ⟨i0, hi, hz0, hz1, hz2⟩ := info_parts info_fl
  obtain ⟨g, L0, hva, hBg, hg, hL, ht, hn, hc⟩ := h.shape hpos
  have hgw : g < w.heap.size := lt_heap hg
  have hbw : E.b < w.heap.size := lt_heap h.blk
  have hvo : (Value.slice E.va E.fs.length E.vc).ownBlock = some g := by rw [hva]; rfl
  have hgb := (h.row_ne hvo).1
  have c0 := h.c0
  have c6 := h.c6
  rw [hva] at c6
  have z0 := h.fz 0
  have hcap : (0 : Int) ≤ (E.vc : Int) := Int.natCast_nonneg _
  have H0 : Hid (RI w (w.setCell ⟨E.b, 0, none⟩ (.int .i64 (ckN E))) E B m g 0 L0 (.slice none 0 0)) := by
    have h1 := h.setB (E' := { E with clock := ckN E }) 0 (.int .i64 (ckN E)) rfl rfl
    have kp := kset (P := fun j => j = E.b) w E.b 0 (.int .i64 (ckN E)) rfl
    refine ⟨h1.ko, kp.obj hg hgb, hL, by simp [lefts, flCells], ?_, fun f hf => h1.fls.byt f hf, ⟨by simp [arrs, flCells], .inl ⟨rfl, by simp [arrs]⟩⟩, kp.mono (fun _ _ e => .inr e)⟩
    intro j _ hj
    rw [← ht, List.getElem?_take_of_lt hj]
  have Hpth : Hid (∀ f ∈ E.fs, ∃ p q : Nat, f.src = p ∧ f.dst = q ∧ p < E.nn ∧ q < E.nn ∧ p ≠ q) := h.pth
  have Hco : Hid (∀ j, En.core { E with clock := ckN E } j → j < w.heap.size) := fun j hj => h.ltOwn (by rcases hj with e | e | e | e; exact .inl e; exact .inr (.inl e); exact .inr (.inr (.inl e)); exact .inr (.inr (.inr (.inl e))))
  have Hbl : Hid (∀ f ∈ E.fs, ∀ j, f.v.ownBlock = some j → j < w.heap.size) := fun f hf j hj => h.ltOwn (.inr (.inr (.inr (.inr (.inr ⟨f, hf, hj⟩)))))
  have Hh : Hid (E.Ok w B m) := h
  clear h hg hL ht
  go_enter Try.func9, Try.ntmps9
  go_wp2
  have hck : wrap64 (E.clock + 1) = ckN E := rfl
  rw [hck]
  generalize hcN : ckN E = cN at H0 ⊢
  generalize hN : E.fs.length = N at *
  go_loopw [3, 4, 24] (fun av lv i wr => ∃ (k : Nat) (L : List Value), k ≤ N ∧ i = .int .i64 k ∧ lv = .slice (some ⟨g, 0, none⟩) (lefts E k).length E.vc ∧ RI w wr E B m g k L av) (fun _ _ i _ => N - (intOf i).toNat)
  case atStart => exact ⟨0, L0, Nat.zero_le _, rfl, rfl, by rw [← hcN] at H0 ⊢; exact H0.out⟩
  case round =>
    obtain ⟨k, L, hk, rfl, rfl, hri⟩ := hrel
    by_cases hlt : k < N
    · obtain ⟨x0, x1, x2, x3, x4⟩ := hri.at (by omega)
      have hfm : E.fs.getD k f0 ∈ E.fs := mem_getD (by omega)
      obtain ⟨p, q, hsp, hdq, hp, hq, hpq⟩ := Hpth.out _ hfm
      have hk0 : wr.cell? ⟨E.b, 0, none⟩ = some (.int .i64 cN) := by rw [← hcN]; exact hri.ko.c0
      have i1 : (0 : Int) ≤ (k : Int) := Int.natCast_nonneg _
      have i2 : (k : Int) < (N : Int) := by omega
      have hll := lefts_le E k
      have hal := arrs_le E k
      have HRI : Hid (RI w wr E B m g k L u3) := hri
      have Hst : Hid (stays E (E.fs.getD k f0) = decide ((E.fs.getD k f0).due ≠ cN)) := by rw [← hcN]; rfl
      have Hcm : Hid (comes E (E.fs.getD k f0) = (decide ((E.fs.getD k f0).due = cN) && decide (barE E p q = 0))) := by rw [← hcN]; unfold comes; rw [hsp, hdq]; rfl
      have Hf : Hid (E.fs.getD k f0 = E.fs.getD k f0) := rfl
      have HBa : Hid (∀ w', Below wr.heap.size wr w' → Calls Try.prog 27 #[.pointer (some ⟨E.b, 0, none⟩), .agg (E.fs.getD k f0).cs] w' fun e w2 => e = .returned (.int .i64 (barE E p q)) ∧ Below w'.heap.size w' w2) := fun w' hb' => barrier_ko (E := { E with clock := ckN E }) (hri.ko.still hb') (E.fs.getD k f0) p q hsp hdq hp hq
      have Hpush : Hid (∀ X, Below wr.heap.size wr X → (E.fs.getD k f0).due ≠ cN → RI w (X.setCells g (0 + (lefts E k).length * 5) (E.fs.getD k f0).cs.toList) E B m g (k + 1) (splice L (0 + (lefts E k).length * 5) (E.fs.getD k f0).cs.toList) u3 ∧ (lefts E (k + 1)).length = (lefts E k).length + 1) := by
        intro X hX hd
        have hs : stays E (E.fs.getD k f0) = true := Hst.out.trans (decide_eq_true hd)
        exact ⟨RI.push (hri.still hX) (by omega) (by omega) hgw hs, by rw [lefts_next (by omega), hs]; simp⟩
      have Holds : Hid (∀ X, Below wr.heap.size wr X → ∀ j u, (flCells (lefts E k))[j]? = some u → X.cell? ⟨g, 0 + j, none⟩ = some u) := fun X hX => (hri.still hX).olds
      have Hspare : Hid (∀ X, Below wr.heap.size wr X → ∀ j, j < (E.fs.getD k f0).cs.toList.length → (X.cell? ⟨g, 0 + (lefts E k).length * 5 + j, none⟩).isSome = true ∧ X.frozen? ⟨g, 0 + (lefts E k).length * 5 + j, none⟩ = false) := fun X hX => (hri.still hX).spare (by omega) (by omega)
      have Hskip : Hid (∀ X, Below wr.heap.size wr X → (E.fs.getD k f0).due = cN → barE E p q ≠ 0 → RI w X E B m g (k + 1) L u3 ∧ (lefts E (k + 1)).length = (lefts E k).length) := by
        intro X hX hd hb
        have hs : stays E (E.fs.getD k f0) = false := Hst.out.trans (decide_eq_false (fun x => x hd))
        have hc : comes E (E.fs.getD k f0) = false := Hcm.out.trans (by rw [decide_eq_false hb, Bool.and_false])
        exact ⟨(hri.still hX).skip (by omega) hs hc, by rw [lefts_next (by omega), hs]; simp⟩
      have Hcome : Hid (∀ X X' av', Below wr.heap.size wr X → (E.fs.getD k f0).due = cN → barE E p q = 0 → X'.ownsRow w.heap.size 43 5 av' ((arrs E k).length + 1) (flCells (arrs E k) ++ (E.fs.getD k f0).cs.toList) → X.grownBy X' u3.ownBlock → RI w X' E B m g (k + 1) L av' ∧ (lefts E (k + 1)).length = (lefts E k).length) := by
        intro X X' av' hX hd hb ho hgr
        have hs : stays E (E.fs.getD k f0) = false := Hst.out.trans (decide_eq_false (fun x => x hd))
        have hc : comes E (E.fs.getD k f0) = true := Hcm.out.trans (by rw [decide_eq_true hd, decide_eq_true hb]; rfl)
        exact ⟨RI.come (hri.still hX) (by omega) hgw hbw Hco.out Hbl.out hs hc ho hgr, by rw [lefts_next (by omega), hs]; simp⟩
      have Harr : Hid (∀ X, Below wr.heap.size wr X → X.ownsRow w.heap.size 43 5 u3 (arrs E k).length (flCells (arrs E k))) := fun X hX => own_still hri.arr hX
      have hwz : w.heap.size ≤ wr.heap.size := hri.kept.size
      generalize E.fs.getD k f0 = f at *
      generalize barE E p q = bE at *
      generalize lefts E k = LL at *
      generalize arrs E k = AA at *
      unfold Fx.cs at HBa
      rw [hsp, hdq] at HBa
      rw [hsp] at x1
      rw [hdq] at x2
      clear hri hfm Hf
      generalize hW1 : wr.alloc (.cells #[.int .i64 f.id, .int .i64 p, .int .i64 q, .int .i64 f.due, .slice f.a f.n f.c] 43) = W1
      have HB1 : Hid (Below wr.heap.size wr W1) := by rw [← hW1]; exact balloc (Below.refl _ wr)
      have hblk1 : W1.heap[wr.heap.size]? = some (.cells #[.int .i64 f.id, .int .i64 p, .int .i64 q, .int .i64 f.due, .slice f.a f.n f.c] 43 (0, 0)) := by rw [← hW1]; exact heap_alloc_new wr _
      obtain ⟨e0, e1, e2, e3, e4⟩ := fl_cells hblk1
      have k01 := below_at HB1.out hk0
      have hcs : f.cs.toList = [.int .i64 f.id, .int .i64 p, .int .i64 q, .int .i64 f.due, .slice f.a f.n f.c] := by unfold Fx.cs; rw [hsp, hdq]
      have HF1 : Hid (W1.heap[wr.heap.size]? = some (.cells #[.int .i64 f.id, .int .i64 p, .int .i64 q, .int .i64 f.due, .slice f.a f.n f.c] 43 (0, 0))) := hblk1
      rw [hcs] at Hpush Hspare Hcome
      clear hblk1
      by_cases hd : f.due = cN
      · subst hd
        by_cases hbE : bE = 0
        · rw [hbE] at HBa
          go_wp2
          go_quiet (fail)
          go_wp2_with (first
            | (go_at_call 27; refine (HBa.out _ (by repeat (first | exact HB1.out | apply below_drewN | apply Below.drew | apply balloc))).mono ?_; rintro e w2 ⟨rfl, hb2⟩; have HB2 : Hid (Below wr.heap.size wr w2) := (bstep (by repeat (first | exact HB1.out | apply below_drewN | apply Below.drew | apply balloc)) hb2); have m0 := below_at hb2 e0; have m1 := below_at hb2 e1; have m2 := below_at hb2 e2; have m3 := below_at hb2 e3; have m4 := below_at hb2 e4; clear hb2)
            | (at_builtin; refine wpList_append_lies _ rfl _ _ 39 rfl w.heap.size 43 i0 (.agg #[.int .i64 0, .int .i64 0, .int .i64 0, .int .i64 0, .slice none 0 0]) 5 56 Try.underlying39 hi hz0 hz1 hz2 rfl (by omega) u3 AA.length (flCells AA) rfl (Harr.out _ (balloc HB2.out)) _ 1 1 _ rfl rfl (World.news_of_block (heap_alloc_new _ _)) (by simp [Value.oneCell']) (by omega) (by unfold maxLen; omega) (by omega) (by have := HB2.out.size; simp; omega) _ rfl ?_; intro g3 cap3 w3 hown3 hgrow3 hat3 hlt3)
            | fail)
          obtain ⟨hn1, hn2⟩ := Hcome.out _ w3 _ (balloc HB2.out) (by first | rfl | trivial) hbE hown3 hgrow3
          exact ⟨⟨k + 1, _, by omega, by go_num, by rw [hn2], hn1⟩, by simp [intOf]; omega⟩
        · go_wp2
          go_quiet (fail)
          go_wp2_with (first
            | (go_at_call 27; refine (HBa.out _ (by repeat (first | exact HB1.out | apply below_drewN | apply Below.drew | apply balloc))).mono ?_; rintro e w2 ⟨rfl, hb2⟩; have HB2 : Hid (Below wr.heap.size wr w2) := (bstep (by repeat (first | exact HB1.out | apply below_drewN | apply Below.drew | apply balloc)) hb2); clear hb2)
            | fail)
          obtain ⟨hn1, hn2⟩ := Hskip.out w2 HB2.out (by first | rfl | trivial) hbE
          exact ⟨⟨k + 1, _, by omega, by go_num, by rw [hn2], hn1⟩, by simp [intOf]; omega⟩
      · go_wp2
        go_quiet (fail)
        go_wp2_with (first
          | (at_builtin; refine wpList_append_arg _ rfl _ _ 39 rfl 43 i0 (.agg #[.int .i64 0, .int .i64 0, .int .i64 0, .int .i64 0, .slice none 0 0]) 5 56 Try.underlying39 hi hz0 hz1 hz2 rfl (by omega) g 0 LL.length E.vc (flCells LL) rfl (flCells_len LL) (Holds.out _ (by repeat (first | exact HB1.out | apply below_drewN | apply Below.drew | apply balloc))) _ 1 1 _ rfl rfl (World.news_of_block (heap_alloc_new _ _)) (by simp [Value.oneCell']) (fun _ => Hspare.out _ (by repeat (first | exact HB1.out | apply below_drewN | apply Below.drew | apply balloc))) (by unfold maxLen; omega) (by omega) (fun _ => ?_) (fun hx => absurd hx (by omega)))
          | fail)
        obtain ⟨hn1, hn2⟩ := Hpush.out ((W1.drewN nq).alloc (.cells #[.int .i64 f.id, .int .i64 p, .int .i64 q, .int .i64 f.due, .slice f.a f.n f.c] 43)) (by repeat (first | exact HB1.out | apply below_drewN | apply Below.drew | apply balloc)) hd
        rw [Nat.zero_add] at hn1
        exact ⟨⟨k + 1, _, by omega, by go_num, by rw [hn2], hn1⟩, by simp [intOf]; omega⟩
    · obtain rfl : k = N := by omega
      have hll := lefts_le E k
      have hc6 : wr.cell? ⟨E.b, 6, none⟩ = some (.slice (some ⟨g, 0, none⟩) k E.vc) := by
        have := hri.ko.c6
        rw [← hva, ← hN]
        exact this
      have hz6 := hri.ko.fz 6
      have HRI : Hid (RI w wr E B m g k L u3) := hri
      have hlk : lefts E k = E.fs.filter (stays E) := by unfold lefts; rw [List.take_of_length_le (by omega)]
      have hak : arrs E k = E.fs.filter (comes E) := by unfold arrs; rw [List.take_of_length_le (by omega)]
      have hfin : Hid (∀ (WC : World) (L' : List Value), Kept wr WC (fun j => j = g) → WC.heap[g]? = some (.cells L'.toArray 43 (0, 0)) → L'.length = E.vc * 5 → L'.take ((lefts E k).length * 5) = flCells (lefts E k) → ∃ a n c, u3 = .slice a n c ∧ RdO w.heap.size B E (WC.setCell ⟨E.b, 6, none⟩ (.slice (some ⟨g, 0, none⟩) (lefts E k).length E.vc)) a n c ((E.fs.filter (comes E)).map Fx.d) ∧ Step w (WC.setCell ⟨E.b, 6, none⟩ (.slice (some ⟨g, 0, none⟩) (lefts E k).length E.vc)) E { E with clock := ckN E, fs := E.fs.filter (stays E) } B m) := by
        intro WC L' k1 k2 k3 k4
        obtain ⟨r1, a, n, c, r2, r3, _⟩ := RI.last2 Hh.out hri (by rw [hN]; exact hvo) hBg hc (by omega) k1 k2 k3 k4
        rw [hak] at r3
        rw [← hva, hlk] at r1
        rw [hlk] at r3 ⊢
        exact ⟨a, n, c, r2, r3, by rw [← hva]; exact r1⟩
      have hcel : Hid (∀ WC : World, Kept wr WC (fun j => j = g) → WC.cell? ⟨E.b, 6, none⟩ = some (.slice (some ⟨g, 0, none⟩) k E.vc) ∧ WC.frozen? ⟨E.b, 6, none⟩ = false) := by
        intro WC k1
        have := hri.ko.keep k1 hri.core
        refine ⟨?_, this.fz 6⟩
        have h6 := this.c6
        rw [← hva, ← hN]
        exact h6
      have hL := hri.len
      have hblk := hri.blk
      have htk := hri.tk
      by_cases hvp : E.vc = (lefts E k).length
      · have hcl : (Builtin.clear_ #[39] 0 #[.slice (some ⟨g, 0, none⟩) (k - (lefts E k).length) 0]).run Try.prog wr = .ok (.tuple #[]) wr := by
          have h1 := run_clearF wr 0 g 0 (k - (lefts E k).length) 0 (fun j hj => by omega) (fun j hj => by omega)
          have e : (Builtin.zeroCells (Value.agg #[.int .i64 0, .int .i64 0, .int .i64 0, .int .i64 0, .slice none 0 0]).cells (k - (lefts E k).length)).toList = [] := List.eq_nil_of_length_eq_zero (by rw [zc_len]; omega)
          rw [e] at h1
          exact h1
        have hdone := hfin.out wr L (Kept.refl _ _) hblk hL htk
        have HDn : Hid (∃ a n c, u3 = .slice a n c ∧ RdO w.heap.size B E (wr.setCell ⟨E.b, 6, none⟩ (.slice (some ⟨g, 0, none⟩) (lefts E k).length E.vc)) a n c ((E.fs.filter (comes E)).map Fx.d) ∧ Step w (wr.setCell ⟨E.b, 6, none⟩ (.slice (some ⟨g, 0, none⟩) (lefts E k).length E.vc)) E { E with clock := ckN E, fs := E.fs.filter (stays E) } B m) := hdone
        clear hdone hfin hblk hL htk hlk hak
        generalize hp : (lefts E k).length = p at *
        have i1 : (0 : Int) ≤ (p : Int) := Int.natCast_nonneg _
        have i2 : (p : Int) ≤ (k : Int) := by omega
        have i3 : (k : Int) ≤ (E.vc : Int) := by omega
        clear hri
        go_wp2
        obtain ⟨a, n, c, r1, r2, r3⟩ := HDn.out
        go_ret
        rw [hvp] at r2
        exact ⟨a, n, c, by rw [← r1]; rfl, r2, by simpa only [hva, hvp, hcN] using r3⟩
      · have hb5 : ∀ j, j < (k - (lefts E k).length) * 5 → (wr.cell? ⟨g, (lefts E k).length * 5 + j, none⟩).isSome = true := fun j hj => by
          rw [blk_cell hblk _]
          simp only [List.getElem?_toArray]
          rw [List.getElem?_eq_getElem (by omega)]
          rfl
        have hcl := run_clearF wr 0 g ((lefts E k).length * 5) (k - (lefts E k).length) (E.vc - (lefts E k).length) hb5 (fun j hj => frozen_of_row wr _ _ _ _ hblk)
        have hzl := zc_len (k - (lefts E k).length)
        generalize hzs : (Builtin.zeroCells (Value.agg #[.int .i64 0, .int .i64 0, .int .i64 0, .int .i64 0, .slice none 0 0]).cells (k - (lefts E k).length)).toList = zs at hcl hzl
        have hfit : (lefts E k).length * 5 + zs.length ≤ L.length := by omega
        have hdone := hfin.out (wr.setCells g ((lefts E k).length * 5) zs) (splice L ((lefts E k).length * 5) zs) (kept_setCells _ _ _) (heap_setCells _ _ wr L hblk hfit) (by rw [length_splice _ _ _ hfit, hL]) (by rw [splice_take _ _ _ (by omega)]; exact htk)
        obtain ⟨t6, tz⟩ := hcel.out (wr.setCells g ((lefts E k).length * 5) zs) (kept_setCells _ _ _)
        generalize hWC : wr.setCells g ((lefts E k).length * 5) zs = WC at hdone hcl t6 tz
        have HDn : Hid (∃ a n c, u3 = .slice a n c ∧ RdO w.heap.size B E (WC.setCell ⟨E.b, 6, none⟩ (.slice (some ⟨g, 0, none⟩) (lefts E k).length E.vc)) a n c ((E.fs.filter (comes E)).map Fx.d) ∧ Step w (WC.setCell ⟨E.b, 6, none⟩ (.slice (some ⟨g, 0, none⟩) (lefts E k).length E.vc)) E { E with clock := ckN E, fs := E.fs.filter (stays E) } B m) := hdone
        clear hdone hfin hblk hL htk hlk hak hb5 hzs hfit hWC
        generalize hp : (lefts E k).length = p at *
        have i1 : (0 : Int) ≤ (p : Int) := Int.natCast_nonneg _
        have i2 : (p : Int) ≤ (k : Int) := by omega
        have i3 : (k : Int) ≤ (E.vc : Int) := by omega
        clear hri
        go_wp2
        obtain ⟨a, n, c, r1, r2, r3⟩ := HDn.out
        go_ret
        exact ⟨a, n, c, by rw [← r1]; rfl, r2, by simpa only [hva, hcN] using r3⟩
set_option maxHeartbeats 400000 in
theorem round_nil2 (h : E.Ok w B m) (hno : E.fs = []) : Calls Try.prog 9 #[.pointer (some ⟨E.b, 0, none⟩)] w fun e w' => ∃ a n c, e = .returned (.slice a n c) ∧ RdO w.heap.size B E w' a n c ((E.fs.filter (comes E)).map Fx.d) ∧ Step w w' E { E with clock := ckN E, fs := E.fs.filter (stays E) } B m := by
  have c0 := h.c0
  have c6 := h.c6
  have z0 := h.fz 0
  have z6 := h.fz 6
  have hl : E.fs.length = 0 := by rw [hno]; rfl
  rw [hl] at c6
  have hres : Hid (Step w ((w.setCell ⟨E.b, 0, none⟩ (.int .i64 (ckN E))).setCell ⟨E.b, 6, none⟩ (.slice E.va 0 E.vc)) E { E with clock := ckN E } B m) := by
    have s1 : Step w (w.setCell ⟨E.b, 0, none⟩ (.int .i64 (ckN E))) E { E with clock := ckN E } B m := ⟨h.setB 0 _ rfl rfl, kset _ _ _ _ (.inl rfl), fun j hj => .inl hj⟩
    have s2 : Step (w.setCell ⟨E.b, 0, none⟩ (.int .i64 (ckN E))) ((w.setCell ⟨E.b, 0, none⟩ (.int .i64 (ckN E))).setCell ⟨E.b, 6, none⟩ (.slice E.va 0 E.vc)) { E with clock := ckN E } { E with clock := ckN E } B m := ⟨s1.ok.setB (E' := { E with clock := ckN E }) 6 _ (by simp [En.cs, hl]) rfl, kset _ _ _ _ (.inl rfl), fun j hj => .inl hj⟩
    exact s1.trans s2
  have hfs : E.fs.filter (stays E) = E.fs := by rw [hno]; rfl
  rw [hfs]
  rw [hno]
  have hck : wrap64 (E.clock + 1) = ckN E := rfl
  generalize ckN E = cN at *
  have hcl : ∀ (W : World) (a : Option Addr) (c : Nat) (ty : TypeId), (Builtin.clear_ #[39] ty #[.slice a 0 c]).run Try.prog W = .ok (.tuple #[]) W := by
    intro W a c ty
    cases a <;> simp [Builtin.clear_, run_underlying Try.underlying39]
  have hrow := h.fls.row
  rw [hl] at hrow
  have hn : E.va = none ∧ E.vc = 0 ∨ ∃ g, E.va = some ⟨g, 0, none⟩ := by
    rcases hrow.2 with ⟨h1, h2⟩ | ⟨g, cap, cur, hv, _⟩
    · simp at h1; exact .inl h1
    · simp at hv; exact .inr ⟨g, hv.1⟩
  clear h hrow
  rcases hn with ⟨hva, hvc⟩ | ⟨g, hva⟩
  · rw [hva, hvc] at c6
    have HR := hres.out
    simp only [hva, hvc, hno] at HR
    clear hres hfs
    go_enter Try.func9, Try.ntmps9
    go_wp2
    refine wp_loop_rounds 1 ?_
    rw [rounds_succ]
    go_wp2
    go_ret
    exact ⟨none, 0, 0, rfl, ⟨[], List.nil_sublist _, rfl, rfl, row_nil _ _ _ _, fun f hf => (by cases hf)⟩, by simpa only [hva, hvc] using HR⟩
  · rw [hva] at c6
    have HR := hres.out
    simp only [hva, hno] at HR
    clear hres hfs
    have hcap : (0 : Int) ≤ (E.vc : Int) := Int.natCast_nonneg _
    go_enter Try.func9, Try.ntmps9
    go_wp2
    refine wp_loop_rounds 1 ?_
    rw [rounds_succ]
    go_wp2
    all_goals (go_ret; exact ⟨none, 0, 0, rfl, ⟨[], List.nil_sublist _, rfl, rfl, row_nil _ _ _ _, fun f hf => (by cases hf)⟩, by simpa only [hva] using HR⟩)
end
end Go.Proofs.Ytnhhjelplmdloaa.Et
namespace Go.Proofs.Ytnhhjelplmdloaa.Et
open Go.RowKit Go.Maps
set_option linter.unusedVariables false
set_option linter.unusedSimpArgs false
set_option maxRecDepth 100000
section
variable {E E' : En} {R R' : Rn} {w w' w1 w2 w3 wa : World} {B K m : Nat}
theorem Rd.keep {P : Nat → Prop} {ao : Option Addr} {n c : Nat} {bs : List Int} (h : Rd w ao n c bs) (k : Kept w w' P) (hp : ∀ b off, ao = some ⟨b, off, none⟩ → ¬ P b) : Rd w' ao n c bs := by
  obtain ⟨h1, h2, h3, h4⟩ := h
  refine ⟨h1, h2, h3.elim (fun hh => Or.inl hh) (fun hh => Or.inr ?_), h4⟩
  obtain ⟨b, off, hb, hc⟩ := hh
  exact ⟨b, off, hb, fun i hi => kcell k (hc i hi) (hp b off hb)⟩
theorem rd_none (w : World) : Rd w none 0 0 [] := ⟨rfl, fun _ => ⟨rfl, rfl⟩, .inl rfl, fun i => by simp⟩
theorem round_any2 (h : E.Ok w B m) (hB : B ≤ w.heap.size) (hlen : E.fs.length ≤ 20000) : Calls Try.prog 9 #[.pointer (some ⟨E.b, 0, none⟩)] w fun e w' => ∃ a n c, e = .returned (.slice a n c) ∧ RdO w.heap.size B E w' a n c ((E.fs.filter (comes E)).map Fx.d) ∧ Step w w' E { E with clock := ckN E, fs := E.fs.filter (stays E) } B m := by
  by_cases hl : 0 < E.fs.length
  · exact round_cons2 h hB hl hlen
  · exact round_nil2 h (List.eq_nil_of_length_eq_zero (by omega))
end
end Go.Proofs.Ytnhhjelplmdloaa.Et
namespace Go.Proofs.Ytnhhjelplmdloaa.Et
open Go.RowKit Go.Maps
set_option linter.unusedVariables false
set_option linter.unusedSimpArgs false
set_option maxRecDepth 100000
section
variable {E E' : En} {R R' : Rn} {w w' w1 w2 w3 wa : World} {B K m : Nat}
def tup (x y : Int) : Value := .tuple #[.int .i64 x, .int .i64 y]
def aL (b a c : Nat) (ao : Option Addr) (n cp : Nat) : Array Value := #[.pointer (some ⟨b, 0, none⟩), .agg #[.int .i64 a, .int .i64 c], .slice ao n cp]
def aP (b : Nat) (p q : Int) (ao : Option Addr) (n cp : Nat) (lv : Bool) : Array Value := #[.pointer (some ⟨b, 0, none⟩), .int .i64 p, .int .i64 q, .slice ao n cp, .bool lv]
def aQ (b : Nat) (p q : Int) (ao : Option Addr) (n cp : Nat) : Array Value := #[.pointer (some ⟨b, 0, none⟩), .int .i64 p, .int .i64 q, .slice ao n cp]
end
end Go.Proofs.Ytnhhjelplmdloaa.Et
namespace Go.Proofs.Ytnhhjelplmdloaa.Et
open Go.RowKit Go.Maps
set_option linter.unusedVariables false
set_option linter.unusedSimpArgs false
set_option maxRecDepth 100000
section
variable {E E' : En} {R R' : Rn} {w w' w1 w2 w3 wa : World} {B K m : Nat}
def aD (b : Nat) (v : Ev) : Array Value := #[.pointer (some ⟨b, 0, none⟩), .agg v.cs]
structure GoodV (w : World) (own : Nat → Prop) (v : Ev) (k a b n : Int) (bn sn : Nat) (bs xs : List Int) : Prop where
  hk : v.k = k
  ha : v.a = a
  hb : v.b = b
  hn : v.n = n
  hbn : v.bn = bn
  hsn : v.sn = sn
  rd : Rd w v.ba bn v.bc bs
  sd : ∃ gs, v.sa = some ⟨gs, 0, none⟩ ∧ (∀ i, i < sn → w.cell? ⟨gs, 0 + i, none⟩ = some (.int .i64 (xs.getD i 0))) ∧ ¬ own gs
theorem GoodV.still {own : Nat → Prop} {v : Ev} {k a b n : Int} {bn sn : Nat} {bs xs : List Int} (g : GoodV w own v k a b n bn sn bs xs) (hb : Below w.heap.size w w') : GoodV w' own v k a b n bn sn bs xs := by
  obtain ⟨gs, h1, h2, h3⟩ := g.sd
  exact ⟨g.hk, g.ha, g.hb, g.hn, g.hbn, g.hsn, g.rd.still hb, gs, h1, fun i hi => below_at hb (h2 i hi), h3⟩
theorem pe_path {vE : Ev} {x : Int} {C : En → Prop} (hk : vE.k = 8 ∨ vE.k = 9 ∨ vE.k = 10) (he : PE 50 (aD E.b vE) E w B K (.int .i64 x) C) : PE 32 (aD E.b vE) E w B K (.int .i64 x) C := fun w' hb =>
  do_path E.b vE hk _ (fun w2 hb2 => (he w2 (bstep hb hb2)).mono fun e w3 ⟨x1, E1, m1, st, hm, hc⟩ => ⟨⟨_, x1⟩, x1, E1, m1, st.pre hb2, hm, hc⟩)
theorem pe_packet {vE : Ev} {x : Int} {C : En → Prop} (hk : vE.k = 12 ∨ vE.k = 13 ∨ vE.k = 15 ∨ vE.k = 16) (he : PE 52 (aD E.b vE) E w B K (.int .i64 x) C) : PE 32 (aD E.b vE) E w B K (.int .i64 x) C := fun w' hb =>
  do_packet E.b vE hk _ (fun w2 hb2 => (he w2 (bstep hb hb2)).mono fun e w3 ⟨x1, E1, m1, st, hm, hc⟩ => ⟨⟨_, x1⟩, x1, E1, m1, st.pre hb2, hm, hc⟩)
end
end Go.Proofs.Ytnhhjelplmdloaa.Et
namespace Go.Proofs.Ytnhhjelplmdloaa.Et
open Go.RowKit Go.Maps
set_option linter.unusedVariables false
set_option linter.unusedSimpArgs false
set_option maxRecDepth 100000
section
variable {E E' : En} {R R' : Rn} {w w' w1 w2 w3 wa : World} {B K m : Nat}
end
end Go.Proofs.Ytnhhjelplmdloaa.Et
namespace Go.Proofs.Ytnhhjelplmdloaa.Et
open Go.RowKit Go.Maps
set_option linter.unusedVariables false
set_option linter.unusedSimpArgs false
set_option maxRecDepth 100000
section
variable {E E' : En} {R R' : Rn} {w w' w1 w2 w3 : World} {B K m : Nat}
end
end Go.Proofs.Ytnhhjelplmdloaa.Et
namespace Go.Proofs.Ytnhhjelplmdloaa.Et
open Go.RowKit Go.Maps
set_option linter.unusedVariables false
set_option linter.unusedSimpArgs false
set_option maxRecDepth 100000
section
variable {E E' : En} {R R' : Rn} {w w' w1 w2 w3 wa W : World} {B K m : Nat}
theorem row_cell {t g n c : Nat} {l : List Value} (h : w.ownsRow B t 1 (.slice (some ⟨g, 0, none⟩) n c) n l) {i : Nat} (hi : i < n) : w.cell? ⟨g, i, none⟩ = l[i]? := by
  rcases h.2 with ⟨h1, h2⟩ | ⟨g', cap, cur, hv, hB, hg, hnc, hcm, hcs, htk⟩
  · omega
  · simp at hv
    obtain ⟨rfl, rfl⟩ := hv
    rw [blk_cell hg _, ← htk, List.getElem?_take_of_lt (by omega), Array.getElem?_toList]
theorem MarkedI.at {g n c : Nat} {xs : List Int} (h : MarkedI w B g n c xs) (hn : xs.length = n) {k : Nat} (hk : k < 64) : w.cell? ⟨g, n + k, none⟩ = some (.int .i64 (700 + (k : Int))) := by
  rw [row_cell h (by omega), List.getElem?_map, List.getElem?_append_right (by omega), show n + k - xs.length = k by omega]
  have := mks_at 64 k hk
  have hl := mks_len 64
  simp only [List.getD] at this
  rw [List.getElem?_eq_getElem (by omega)] at this ⊢
  simp at this
  simp [this]
theorem MarkedI.cells {g n c : Nat} {xs : List Int} (h : MarkedI w B g n c xs) (hn : xs.length = n) {i : Nat} (hi : i < n) : w.cell? ⟨g, 0 + i, none⟩ = some (.int .i64 (xs.getD i 0)) := by
  rw [Nat.zero_add, row_cell h (by omega), List.getElem?_map, List.getElem?_append_left (by omega), List.getElem?_eq_getElem (by omega)]
  simp [List.getD, List.getElem?_eq_getElem (show i < xs.length by omega)]
theorem MarkedI.cap {g n c : Nat} {xs : List Int} (h : MarkedI w B g n c xs) : n + 64 ≤ c := by
  rcases h.2 with ⟨h1, h2⟩ | ⟨g, cap, cur, hv, hg1, hg2, hnc, _⟩
  · omega
  · simp at hv; omega
def evC (o : Opx) (gb cb gs cs : Nat) : Ev := ⟨o.k - 20, o.p, o.q, o.n, some ⟨gb, 0, none⟩, o.bn, cb, some ⟨gs, 0, none⟩, o.sn, cs⟩
end
end Go.Proofs.Ytnhhjelplmdloaa.Et
namespace Go.Proofs.Ytnhhjelplmdloaa.Et
open Go.RowKit Go.Maps
set_option linter.unusedVariables false
set_option linter.unusedSimpArgs false
set_option maxRecDepth 100000
section
variable {E E' : En} {R R' : Rn} {w w' w1 w2 w3 : World} {B K m : Nat}
end
end Go.Proofs.Ytnhhjelplmdloaa.Et
namespace Go.Proofs.Ytnhhjelplmdloaa.Et
open Go.RowKit Go.Maps
set_option linter.unusedVariables false
set_option linter.unusedSimpArgs false
set_option maxRecDepth 100000
section
variable {E E' : En} {R R' : Rn} {w w' w1 w2 w3 : World} {B K m : Nat}
end
end Go.Proofs.Ytnhhjelplmdloaa.Et
namespace Go.Proofs.Ytnhhjelplmdloaa.Et
open Go.RowKit Go.Maps
set_option linter.unusedVariables false
set_option linter.unusedSimpArgs false
set_option maxRecDepth 100000
section
variable {E E' : En} {R R' : Rn} {w w' w1 w2 w3 : World} {B K m : Nat}
theorem Fx.byt.lower {f : Fx} {B' : Nat} (h : f.byt w B) (hB : B' ≤ B) : f.byt w B' := ⟨own_lower h.1 hB, h.2⟩
theorem En.Ok.lower {B' : Nat} (h : E.Ok w B m) (hB : B' ≤ B) : E.Ok w B' m :=
  ⟨h.blk, h.nod, h.cut, h.del, ⟨own_lower h.fls.row hB, fun f hf => (h.fls.byt f hf).lower hB, h.fls.apt⟩, ⟨Nat.le_trans hB h.ge.1, Nat.le_trans hB h.ge.2.1, Nat.le_trans hB h.ge.2.2.1, Nat.le_trans hB h.ge.2.2.2⟩, h.ne, h.n16, h.pth, h.dly⟩
def OpIn (w : World) (o : Opx) : Prop := (∃ bs, Rd w o.ba o.bn o.bc bs) ∧ (∃ xs, RdI w o.sa o.sn o.sc xs) ∧ o.bn ≤ 140737488351232 ∧ o.sn ≤ 17592186043904 ∧ o.n ≤ 9223372036854775807
def o0 : Opx := ⟨0, 0, 0, 0, none, 0, 0, none, 0, 0⟩
def RdOps (w : World) (oa : Option Addr) (n : Nat) (os : Nat → Opx) : Prop :=
  (n = 0 ∨ ∃ b off, oa = some ⟨b, off, none⟩ ∧ ∀ i, i < n → ∀ j, j < 6 → w.cell? ⟨b, off + (i * 6 + j), none⟩ = (os i).cs[j]?) ∧ ∀ i, i < n → OpIn w (os i)
theorem op_cs (o : Opx) (j : Nat) (hj : j < 6) : ∃ u, o.cs[j]? = some u := ⟨_, Array.getElem?_eq_getElem (by show j < o.cs.size; exact hj)⟩
theorem OpIn.low {w0 : World} {o : Opx} (h : OpIn w0 o) (hl : Below w0.heap.size w0 w) : (∃ bs, ∀ w', Below w0.heap.size w w' → Rd w' o.ba o.bn o.bc bs) ∧ (∃ xs, ∀ w', Below w0.heap.size w w' → RdI w' o.sa o.sn o.sc xs) := by
  obtain ⟨⟨bs, hb⟩, ⟨xs, hx⟩, _⟩ := h
  exact ⟨⟨bs, fun w' hl' => hb.still (hl.trans hl')⟩, ⟨xs, fun w' hl' => hx.still (hl.trans hl')⟩⟩
theorem RdOps.at {w0 : World} {oa : Option Addr} {n k : Nat} {os : Nat → Opx} (h : RdOps w0 oa n os) (hl : Below w0.heap.size w0 w) (hk : k < n) : ∃ b off, oa = some ⟨b, off, none⟩ ∧ w.cell? ⟨b, off + k * 6, none⟩ = some (.int .i64 (os k).k) ∧ w.cell? ⟨b, off + k * 6 + 1, none⟩ = some (.int .i64 (os k).p) ∧ w.cell? ⟨b, off + k * 6 + 2, none⟩ = some (.int .i64 (os k).q) ∧ w.cell? ⟨b, off + k * 6 + 3, none⟩ = some (.int .i64 (os k).n) ∧ w.cell? ⟨b, off + k * 6 + 4, none⟩ = some (.slice (os k).ba (os k).bn (os k).bc) ∧ w.cell? ⟨b, off + k * 6 + 5, none⟩ = some (.slice (os k).sa (os k).sn (os k).sc) := by
  rcases h.1 with h0 | ⟨b, off, ha, hc⟩
  · omega
  · refine ⟨b, off, ha, ?_, ?_, ?_, ?_, ?_, ?_⟩
    · exact below_at hl (hc k hk 0 (by omega))
    · exact below_at hl (hc k hk 1 (by omega))
    · exact below_at hl (hc k hk 2 (by omega))
    · exact below_at hl (hc k hk 3 (by omega))
    · exact below_at hl (hc k hk 4 (by omega))
    · exact below_at hl (hc k hk 5 (by omega))
def kc (nd rm : Int) (oa : Option Addr) (n oc : Nat) : Array Value := #[.int .i64 nd, .int .i64 rm, .slice oa n oc]
end
end Go.Proofs.Ytnhhjelplmdloaa.Et
namespace Go.Proofs.Ytnhhjelplmdloaa.Oe
open Go.ChangeShapes Go.WideShapes Go.ChangeAt Go.RowKit Et
set_option linter.unusedVariables false
set_option linter.unusedSimpArgs false
section
variable {H : Type} {enc : TypeId × Value → H} {W : World}
def Wt (d : DataW H) (t : TypeId) : Prop := ∀ m ∈ d.weights Try.prog t, m ≤ reachBytes
theorem struct_parts {t : TypeId} {fs : Array Field} {fuel : Nat} {cs : List Value} {x : DataW H × List MemPlace} (ht : Try.prog.underlying t = some (.struct fs)) (h : DataW.trod enc Try.prog W 0 (fun _ => true) true fuel t cs = some x) (hw : Wt x.1 t) :
    ∃ (xs : List (DataW H × List MemPlace)) (n : Nat), xs.length = fs.size ∧ (∀ (i : Nat) (f : Field), fs[i]? = some f → DataW.trod enc Try.prog W 0 (fun _ => true) true n f.type ((cs.drop f.offset).take (Try.prog.cellsOf f.type)) = xs[i]?) ∧ ∀ (i : Nat) (f : Field) y, fs[i]? = some f → xs[i]? = some y → Wt y.1 f.type := by
  obtain ⟨xs, n, _, hx, _, hl, hF⟩ := DataW.trod_struct ht h
  refine ⟨xs, n, hl, hF, fun i f y hf hy m hm => hw m ?_⟩
  rw [hx]
  simp only [DataW.weights, ht]
  exact DataW.weights_mem_each (j := i) (by rw [List.getElem?_map, Array.getElem?_toList, hf]; rfl) (by rw [List.getElem?_map, hy]; rfl) m hm
def OI (W : World) (a : Option Addr) (n c : Nat) (xs : List Int) : Prop := RdI W a n c xs ∧ n * 8 ≤ 140737488351232
def OB (W : World) (a : Option Addr) (n c : Nat) (xs : List Int) : Prop := Rd W a n c xs ∧ n ≤ 140737488351232
theorem cI : Try.prog.cellsOf 3 = 1 := by kernel_rfl
theorem cU : Try.prog.cellsOf 5 = 1 := by kernel_rfl
theorem cB : Try.prog.cellsOf 35 = 1 := by kernel_rfl
theorem cIs : Try.prog.cellsOf 30 = 1 := by kernel_rfl
theorem cOs : Try.prog.cellsOf 22 = 1 := by kernel_rfl
theorem cO : Try.prog.cellsOf 46 = 6 := by kernel_rfl
theorem cC : Try.prog.cellsOf 24 = 3 := by kernel_rfl
theorem bI : Try.prog.bytesOf 3 = 8 := by kernel_rfl
theorem bU : Try.prog.bytesOf 5 = 1 := by kernel_rfl
theorem bO : Try.prog.bytesOf 46 = 80 := by kernel_rfl
theorem open_i {fuel : Nat} {c : Value} {x : DataW H × List MemPlace} (h : DataW.trod enc Try.prog W 0 (fun _ => true) true fuel 3 [c] = some x) : ∃ v : Int, c = .int .i64 v ∧ v ≤ 9223372036854775807 := by
  obtain ⟨v, e, _, hw⟩ := DataW.trod_int Try.underlying3 h
  simp only [List.cons.injEq, and_true] at e
  refine ⟨v, e, ?_⟩
  have h2 : -9223372036854775808 ≤ v ∧ v ≤ 9223372036854775807 := by simpa [Lit.wf, IntKind.min, IntKind.max, IntKind.signed, IntKind.bits] using hw
  exact h2.2
theorem row_of {k : IntKind} {x : Addr} {l c : Nat} {zs : List Int} (hl : l ≤ c) (hz : zs.length = c) (hcell : ∀ i, i < zs.length → W.cell? (x.add i) = some (.int k (zs.getD i 0))) : l = 0 ∨ ∃ b off, some x = some (⟨b, off, none⟩ : Addr) ∧ ∀ i, i < l → W.cell? ⟨b, off + i, none⟩ = some (.int k ((zs.take l).getD i 0)) := by
  by_cases h0 : l = 0
  · exact .inl h0
  · obtain ⟨b, off, spot⟩ := x
    have hc := hcell 0 (by omega)
    have hspot : spot = none := by simpa [Addr.add] using World.cell?_spot hc
    subst hspot
    refine .inr ⟨b, off, rfl, fun i hi => ?_⟩
    have := hcell i (by omega)
    rw [Addr.add_lit] at this
    rw [this]
    simp [List.getD, hi]
theorem open_is {fuel : Nat} {v : Value} {x : DataW H × List MemPlace} (h : DataW.trod enc Try.prog W 0 (fun _ => true) true fuel 30 [v] = some x) (hw : Wt x.1 30) : ∃ a n c xs, v = .slice a n c ∧ OI W a n c xs := by
  rcases open_ints Try.underlying30 Try.underlying3 cI h with ⟨hcs, _⟩ | ⟨x, l, c, zs, hcs, _, hl, hm, hz, hx3, hcell, hwz⟩
  · simp only [List.cons.injEq, and_true] at hcs
    subst hcs
    exact ⟨none, 0, 0, [], rfl, ⟨rfl, fun _ => ⟨rfl, rfl⟩, .inl rfl⟩, by omega⟩
  · simp only [List.cons.injEq, and_true] at hcs
    subst hcs
    simp only [if_true] at hz
    refine ⟨some x, l, c, zs.take l, rfl, ⟨by rw [List.length_take]; omega, by simp, row_of hl hz hcell⟩, ?_⟩
    have := hw ((((lits .i64 (zs.take l) : List (DataW H)).length + (lits .i64 (zs.drop l) : List (DataW H)).length) * Try.prog.bytesOf 3)) (by rw [hx3]; simp [DataW.weights, Try.underlying30])
    rw [bI] at this
    simp only [lits, List.length_map, List.length_take, List.length_drop, reachBytes] at this
    omega
theorem open_bs {fuel : Nat} {v : Value} {x : DataW H × List MemPlace} (h : DataW.trod enc Try.prog W 0 (fun _ => true) true fuel 35 [v] = some x) (hw : Wt x.1 35) : ∃ a n c xs, v = .slice a n c ∧ OB W a n c xs := by
  rcases open_ints Try.underlying35 Try.underlying5 cU h with ⟨hcs, _⟩ | ⟨x, l, c, zs, hcs, _, hl, hm, hz, hx3, hcell, hwz⟩
  · simp only [List.cons.injEq, and_true] at hcs
    subst hcs
    exact ⟨none, 0, 0, [], rfl, ⟨rfl, fun _ => ⟨rfl, rfl⟩, .inl rfl, by simp⟩, by omega⟩
  · simp only [List.cons.injEq, and_true] at hcs
    subst hcs
    simp only [if_true] at hz
    refine ⟨some x, l, c, zs.take l, rfl, ⟨by rw [List.length_take]; omega, by simp, row_of hl hz hcell, fun i => ?_⟩, ?_⟩
    · by_cases hi : i < (zs.take l).length
      · have hmem : (zs.take l).getD i 0 ∈ zs := by
          have : (zs.take l).getD i 0 ∈ zs.take l := by simp only [List.getD, List.getElem?_eq_getElem hi]; exact List.getElem_mem hi
          exact List.mem_of_mem_take this
        have := hwz _ hmem
        simpa [Lit.wf, IntKind.min, IntKind.max, IntKind.signed, IntKind.bits] using this
      · simp [List.getD, List.getElem?_eq_none (by omega : (zs.take l).length ≤ i)]
    · have := hw ((((lits .u8 (zs.take l) : List (DataW H)).length + (lits .u8 (zs.drop l) : List (DataW H)).length) * Try.prog.bytesOf 5)) (by rw [hx3]; simp [DataW.weights, Try.underlying35])
      rw [bU] at this
      simp only [lits, List.length_map, List.length_take, List.length_drop, reachBytes] at this
      omega
theorem wAll {e : TypeId} : ∀ {l : List (DataW H)} {d : DataW H}, d ∈ l → ∀ m ∈ d.weights Try.prog e, m ∈ DataW.weightsAll Try.prog e l
  | d0 :: l, d, hd, m, hm => by
    simp only [DataW.weightsAll, List.mem_append]
    rcases List.mem_cons.1 hd with rfl | hd
    · exact .inl hm
    · exact .inr (wAll hd m hm)
theorem list3 {α : Type} {l : List α} (h : l.length = 3) : ∃ c0 c1 c2, l = [c0, c1, c2] := by
  match l, h with
  | [c0, c1, c2], _ => exact ⟨c0, c1, c2, rfl⟩
theorem list6 {α : Type} {l : List α} (h : l.length = 6) : ∃ c0 c1 c2 c3 c4 c5, l = [c0, c1, c2, c3, c4, c5] := by
  match l, h with
  | [c0, c1, c2, c3, c4, c5], _ => exact ⟨c0, c1, c2, c3, c4, c5, rfl⟩
theorem slice_parts {t e : TypeId} {fuel k : Nat} {v : Value} {x : DataW H × List MemPlace} (ht : Try.prog.underlying t = some (.slice e)) (hc : Try.prog.cellsOf e = k) (hk : 0 < k) (h : DataW.trod enc Try.prog W 0 (fun _ => true) true fuel t [v] = some x) (hw : Wt x.1 t) :
    v = .slice none 0 0 ∨ ∃ (ad : Addr) (len cap n : Nat) (D : Nat → DataW H) (Pl : Nat → List MemPlace), v = .slice (some ad) len cap ∧ len * Try.prog.bytesOf e ≤ reachBytes ∧ ∀ i, i < len → Wt (D i) e ∧ ∃ cs', cs'.length = k ∧ (∀ j, j < k → W.cell? (ad.add (i * k + j)) = cs'[j]?) ∧ DataW.trod enc Try.prog W 0 (fun _ => true) true n e cs' = some (D i, Pl i) := by
  rcases Deep.open_slice ht h with ⟨hcs, _⟩ | ⟨a, len, cap, m, n, D, Pl, hcs, _, hl, _, hm, hx, hel⟩
  · simp only [List.cons.injEq, and_true] at hcs
    exact .inl hcs
  · simp only [List.cons.injEq, and_true] at hcs
    simp only [if_true] at hm
    have hx1 : x.1 = .slice ((List.range len).map D) ((List.range (m - len)).map fun j => D (len + j)) := by rw [hx]
    refine .inr ⟨a, len, cap, n, D, Pl, hcs, ?_, fun i hi => ⟨fun w hw' => hw w ?_, ?_⟩⟩
    · have := hw (((((List.range len).map D).length + ((List.range (m - len)).map fun j => D (len + j)).length)) * Try.prog.bytesOf e) (by rw [hx1]; simp [DataW.weights, ht])
      simp only [List.length_map, List.length_range] at this
      refine Nat.le_trans (Nat.mul_le_mul_right _ ?_) this
      omega
    · rw [hx1]
      simp only [DataW.weights, ht, List.mem_cons, List.mem_append]
      exact .inr (.inl (wAll (List.mem_map.2 ⟨i, List.mem_range.2 hi, rfl⟩) w hw'))
    · obtain ⟨cs', h1, h2⟩ := hel i (by omega)
      rw [hc] at h1
      obtain ⟨_, hlen, hcell⟩ := World.cells?_some h1
      refine ⟨cs', hlen, fun j hj => ?_, h2⟩
      have := hcell j (by omega)
      rw [Addr.add_add] at this
      exact this
theorem ad_plain {x : Addr} {v : Value} (h : W.cell? (x.add 0) = some v) : ∃ b off, x = ⟨b, off, none⟩ := by
  obtain ⟨b, off, spot⟩ := x
  have hspot : spot = none := by simpa [Addr.add] using World.cell?_spot h
  subst hspot
  exact ⟨b, off, rfl⟩
theorem open_ops {fuel : Nat} {v : Value} {x : DataW H × List MemPlace} (h : DataW.trod enc Try.prog W 0 (fun _ => true) true fuel 22 [v] = some x) (hw : Wt x.1 22) : ∃ a n c os, v = .slice a n c ∧ RdOps W a n os ∧ n ≤ 1759218604390 := by
  rcases slice_parts Try.underlying22 cO (by decide) h hw with rfl | ⟨ad, len, cap, n, D, Pl, rfl, hb, hel⟩
  · exact ⟨none, 0, 0, (fun _ => o0), rfl, ⟨.inl rfl, fun i hi => by omega⟩, by omega⟩
  · rw [bO] at hb
    have each : ∀ i, ∃ o : Opx, i < len → (∀ j, j < 6 → W.cell? (ad.add (i * 6 + j)) = o.cs[j]?) ∧ OpIn W o := by
      intro i
      by_cases hi : i < len
      · obtain ⟨hwD, cs', hl, hcell, htr⟩ := hel i hi
        obtain ⟨c0, c1, c2, c3, c4, c5, rfl⟩ := list6 hl
        obtain ⟨xs, n', hxl, hF, hWf⟩ := struct_parts Try.underlying46 htr hwD
        obtain ⟨y0, y1, y2, y3, y4, y5, rfl⟩ := list6 hxl
        have h0 : DataW.trod enc Try.prog W 0 (fun _ => true) true n' 3 [c0] = some y0 := by simpa [cI] using hF 0 _ rfl
        have h1 : DataW.trod enc Try.prog W 0 (fun _ => true) true n' 3 [c1] = some y1 := by simpa [cI] using hF 1 _ rfl
        have h2 : DataW.trod enc Try.prog W 0 (fun _ => true) true n' 3 [c2] = some y2 := by simpa [cI] using hF 2 _ rfl
        have h3 : DataW.trod enc Try.prog W 0 (fun _ => true) true n' 3 [c3] = some y3 := by simpa [cI] using hF 3 _ rfl
        have h4 : DataW.trod enc Try.prog W 0 (fun _ => true) true n' 35 [c4] = some y4 := by simpa [cB] using hF 4 _ rfl
        have h5 : DataW.trod enc Try.prog W 0 (fun _ => true) true n' 30 [c5] = some y5 := by simpa [cIs] using hF 5 _ rfl
        obtain ⟨v0, rfl, _⟩ := open_i h0
        obtain ⟨v1, rfl, _⟩ := open_i h1
        obtain ⟨v2, rfl, _⟩ := open_i h2
        obtain ⟨v3, rfl, hv3⟩ := open_i h3
        obtain ⟨a, m, c, bs, rfl, ho⟩ := open_bs h4 (hWf 4 _ y4 rfl rfl)
        obtain ⟨a2, m2, c2', zs, rfl, ho2⟩ := open_is h5 (hWf 5 _ y5 rfl rfl)
        have hm2 := ho2.2
        refine ⟨⟨v0, v1, v2, v3, a, m, c, a2, m2, c2'⟩, fun _ => ⟨fun j hj => ?_, ⟨bs, ho.1⟩, ⟨zs, ho2.1⟩, ho.2, by show m2 ≤ _; omega, hv3⟩⟩
        rw [hcell j hj]
        simp [Opx.cs]
      · exact ⟨o0, fun h => absurd h hi⟩
    obtain ⟨f, hf⟩ := Classical.axiomOfChoice each
    refine ⟨some ad, len, cap, f, rfl, ⟨?_, fun i hi => (hf i hi).2⟩, by unfold reachBytes at hb; omega⟩
    by_cases h0 : len = 0
    · exact .inl h0
    · obtain ⟨b, off, rfl⟩ := ad_plain (v := .int .i64 (f 0).k) (by have h9 := (hf 0 (by omega)).1 0 (by decide); simp only [Nat.zero_mul, Nat.zero_add] at h9; exact h9)
      refine .inr ⟨b, off, rfl, fun i hi j hj => ?_⟩
      have := (hf i hi).1 j hj
      rw [Addr.add_lit] at this
      exact this
set_option maxRecDepth 100000 in
theorem open_case {base : Nat} {v : Value} {d : DataW H} {p : List MemPlace} (hok : Value.okWide Try.prog W .any base 24 v) (h : DataW.Trod enc Try.prog W 0 (fun _ => true) true 24 v d p) (hw : Wt d 24) : ∃ nd rm oa n oc os, v = .agg (kc nd rm oa n oc) ∧ RdOps W oa n os ∧ n ≤ 1759218604390 := by
  obtain ⟨cs, rfl, hsz⟩ := okWide_struct Try.underlying24 hok
  rw [cC] at hsz
  obtain ⟨c0, c1, c2, hcs⟩ := list3 (show cs.toList.length = 3 by simpa using hsz)
  obtain rfl : cs = #[c0, c1, c2] := by
    apply Array.ext'
    rw [hcs]
  obtain ⟨fuel, hf⟩ := h
  obtain ⟨xs, n, hxl, hF, hWf⟩ := struct_parts Try.underlying24 hf hw
  obtain ⟨y0, y1, y2, rfl⟩ := list3 hxl
  have h0 : DataW.trod enc Try.prog W 0 (fun _ => true) true n 3 [c0] = some y0 := by simpa [Value.cells, cI, cOs] using hF 0 _ rfl
  have h1 : DataW.trod enc Try.prog W 0 (fun _ => true) true n 3 [c1] = some y1 := by simpa [Value.cells, cI, cOs] using hF 1 _ rfl
  have h2 : DataW.trod enc Try.prog W 0 (fun _ => true) true n 22 [c2] = some y2 := by simpa [Value.cells, cI, cOs] using hF 2 _ rfl
  obtain ⟨v0, rfl, _⟩ := open_i h0
  obtain ⟨v1, rfl, _⟩ := open_i h1
  obtain ⟨a, m, c, os, rfl, ho, hn⟩ := open_ops h2 (hWf 2 _ y2 rfl rfl)
  exact ⟨v0, v1, a, m, c, os, rfl, ho, hn⟩
end
end Go.Proofs.Ytnhhjelplmdloaa.Oe
