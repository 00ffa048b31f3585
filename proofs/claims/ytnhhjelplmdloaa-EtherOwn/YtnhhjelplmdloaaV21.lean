import Derived.Test.YtnhhjelplmdloaaV20
namespace Go.Proofs.Ytnhhjelplmdloaa.Et
open Go.RowKit Go.Maps
set_option linter.unusedVariables false
set_option linter.unusedSimpArgs false
set_option maxRecDepth 100000
section
variable {w w' W w1 : World} {B m : Nat}
theorem wpList_append_rd {P : Program} (w : World) {ops : Array Oper} {rest : List Oper} {o : Oper} {a : Act} {Q : Exit → Act → World → Prop} (hgd : o.guard = none) (s x : Operand) (t : TypeId)
    (ho : o.op = .call { callee := .builtin .append, args := #[s, x], argTypes := #[t, t] })
    (base : Nat) (e : TypeId) (i : TypeInfo) (z : Value) (bytes : Nat) (ht : P.underlying t = some (.slice e)) (hi : P.info? e = some i) (hz : i.zero = some z)
    (hsize : i.size = 1) (hby : i.bytes = bytes) (hzs : z.cells.size = 1)
    (v : Value) (n : Nat) (xs : List Value) (hs : a.eval s = v) (hown : w.ownsRow base e 1 v n xs)
    (ao : Option Addr) (m c : Nat) (news : List Value) (hx : a.eval x = .slice ao m c) (hnone : ao = none → m = 0 ∧ c = 0) (hl : news.length = m) (hnews : ∀ ad, ao = some ad → ∀ j u, news[j]? = some u → w.cell? (ad.add j) = some u) (h1 : ∀ u ∈ news, u.oneCell' = true)
    (h63 : n + m ≤ maxLen) (hbytes : (n + m) * bytes ≤ 140737488355328) (hbase : base ≤ w.heap.size)
    (h : ∀ v' w', w'.ownsRow base e 1 v' (n + m) (xs ++ news) → w.grownBy w' v.ownBlock → wpList P ops Q rest (a.put o.dst v') w') : wpList P ops Q (o :: rest) a w := by
  cases ao with
  | some ad => exact wpList_append_own w hgd s x t ho base e i z 1 bytes ht hi hz hsize hby hzs (by decide) v n xs hs hown ad m c news hx (by omega) (hnews ad rfl) h1 h63 hbytes hbase fun v' w' h2 h3 _ => h v' w' h2 h3
  | none =>
    obtain ⟨rfl, rfl⟩ := hnone rfl
    obtain rfl : news = [] := List.eq_nil_of_length_eq_zero hl
    exact wpList_append_own_none hgd s x t ho base e i 1 ht hi v n xs hs hown hx (h v w (by simpa using hown) (World.grownBy.refl _ _))
theorem rd_cells {ao : Option Addr} {n c : Nat} {bs : List Int} (h : Rd w ao n c bs) : ∀ ad, ao = some ad → ∀ j u, (bs.map (Value.int .u8))[j]? = some u → w.cell? (ad.add j) = some u := fun ad ha => h.cells ad ha
theorem row_nil (w : World) (B t s : Nat) : w.ownsRow B t s (.slice none 0 0) 0 [] := ⟨by simp, .inl ⟨rfl, rfl⟩⟩
def mk (k : Nat) : List Int := (List.range k).map fun (i : Nat) => (90 : Int) + (i : Int)
theorem mk_succ (k : Nat) : mk (k + 1) = mk k ++ [(90 : Int) + (k : Int)] := by simp [mk, List.range_succ]
theorem mk_at (k i : Nat) (hi : i < k) : (mk k).getD i 0 = 90 + (i : Int) := by simp [mk, List.getD, hi]
def Marked (w : World) (B g n c : Nat) (bs : List Int) : Prop := w.ownsRow B 5 1 (.slice (some ⟨g, 0, none⟩) (n + 64) c) (n + 64) ((bs ++ mk 64).map (Value.int .u8))
set_option maxHeartbeats 400000 in
theorem spare_any {ao : Option Addr} {n c : Nat} {bs : List Int} (hr : Rd w ao n c bs) (hlen : n ≤ 140737488351232) : Calls Try.prog 54 #[.slice ao n c] w fun e w' => ∃ g cap, e = .returned (.slice (some ⟨g, 0, none⟩) n cap) ∧ Marked w' w.heap.size g n cap bs ∧ Below w.heap.size w w' := by
  obtain ⟨i0, hi, hz0, hz1, hz2⟩ := info_parts info_u8
  have hlb := hr.1
  have Hr : Hid (Rd w ao n c bs) := hr
  clear hr
  go_enter Try.func54, Try.ntmps54
  go_wp2_with (first
    | (at_builtin; refine wpList_append_rd _ rfl _ _ 35 rfl w.heap.size 5 i0 (.int .u8 0) 1 Try.underlying35 hi hz0 hz1 hz2 rfl (.slice none 0 0) 0 [] rfl (row_nil _ _ _ _) _ _ _ (bs.map (Value.int .u8)) rfl Hr.out.2.1 (by simpa using hlb) (rd_cells Hr.out) (bytes_one bs) ?c1 ?c2 (Nat.le_refl _) ?_)
    | fail)
  case c1 => unfold maxLen; omega
  case c2 => omega
  intro v' w2 hown' hgrow
  have HO : Hid (w2.ownsRow w.heap.size 5 1 v' n (bs.map (Value.int .u8))) := by
    show World.ownsRow _ _ _ _ _ _ _
    simpa using hown'
  have HB : Hid (Below w.heap.size w w2) := (Below.refl _ w).grown hgrow (Nat.le_refl _) (fun k hk => by simp [Value.ownBlock] at hk)
  clear hown' hgrow
  go_wp2
  go_loopw [3, 4] (fun v i wr => ∃ k : Nat, k ≤ 64 ∧ i = .int .i64 k ∧ wr.ownsRow w.heap.size 5 1 v (n + k) ((bs ++ mk k).map (Value.int .u8)) ∧ Below w.heap.size w wr) (fun _ i _ => 64 - (intOf i).toNat)
  case atStart => exact ⟨0, Nat.zero_le _, rfl, by simpa [mk] using HO.out, HB.out⟩
  case round =>
    obtain ⟨k, hk, rfl, ho, hb⟩ := hrel
    by_cases hlt : k < 64
    · have HO : Hid (wr.ownsRow w.heap.size 5 1 u3 (n + k) ((bs ++ mk k).map (Value.int .u8))) := ho
      have HB : Hid (Below w.heap.size w wr) := hb
      have hws := hb.size
      have i1 : (0 : Int) ≤ (k : Int) := Int.natCast_nonneg _
      have i2 : (k : Int) < 64 := by omega
      have hw8 : IntKind.u8.wrap (90 + (k : Int)) = 90 + (k : Int) := wrap_u8 (by omega) (by omega)
      have Hmk : Hid ((bs ++ mk (k + 1)).map (Value.int .u8) = (bs ++ mk k).map (Value.int .u8) ++ [.int .u8 (90 + (k : Int))]) := by
        show _ = _
        rw [mk_succ]; simp
      generalize (bs ++ mk k).map (Value.int .u8) = T at HO Hmk
      clear ho hb
      go_wp2_with (first
        | (at_builtin; refine wpList_append_lies _ rfl _ _ 35 rfl w.heap.size 5 i0 (.int .u8 0) 1 1 Try.underlying35 hi hz0 hz1 hz2 rfl (by omega) u3 (n + k) T rfl (World.ownsRow.alloc HO.out _) _ 1 1 _ rfl rfl (World.news_of_block (heap_alloc_new _ _)) (by simp [Value.oneCell']) (by omega) (by unfold maxLen; omega) (by omega) (by simp; omega) _ rfl ?_; intro g3 cap3 w3 hown3 hgrow3 hat3 hlt3)
        | fail)
      have hb3 : Below w.heap.size w w3 := (balloc HB.out).grown hgrow3 (by simp; omega) (fun q hq => (World.ownsRow.lt HO.out q hq).1)
      clear hgrow3 hat3
      first
        | exact ⟨⟨k + 1, by omega, by go_num, by rw [Hmk.out, ← Nat.add_assoc]; simpa using hown3, hb3⟩, by simp [intOf]; omega⟩
        | (go_roundw
           case rel => exact ⟨k + 1, by omega, by go_num, by rw [Hmk.out, ← Nat.add_assoc]; simpa using hown3, hb3⟩
           case measure => simp [intOf]; omega)
    · obtain rfl : k = 64 := by omega
      rcases ho.2 with ⟨h1, h2⟩ | ⟨g, cap, cur, hv, hg1, hg2, hnc, _⟩
      · omega
      · subst hv
        have i1 : (0 : Int) ≤ (n : Int) := Int.natCast_nonneg _
        have i2 : (n : Int) ≤ (cap : Int) := by omega
        have HO : Hid (wr.ownsRow w.heap.size 5 1 (.slice (some ⟨g, 0, none⟩) (n + 64) cap) (n + 64) ((bs ++ mk 64).map (Value.int .u8))) := ho
        clear ho hg2
        go_wp2
        go_ret
        exact ⟨g, cap, by simp, HO.out, hb⟩
theorem Marked.rd {g n c : Nat} {bs : List Int} (h : Marked w B g n c bs) (hn : bs.length = n) (hr : ∀ i, 0 ≤ bs.getD i 0 ∧ bs.getD i 0 ≤ 255) : Rd w (some ⟨g, 0, none⟩) n c bs := by
  refine ⟨hn, (fun e => by cases e), Or.inr ⟨g, 0, rfl, fun i hi => ?_⟩, hr⟩
  obtain ⟨g', hg', hc, _⟩ := own_at h (i := i) (by omega)
  obtain rfl : g = g' := by simpa using hg'
  rw [Nat.zero_add, hc]
  simp [List.getD, List.getElem?_append_left (show i < bs.length by omega)]
theorem Marked.at {g n c : Nat} {bs : List Int} (h : Marked w B g n c bs) (hn : bs.length = n) {k : Nat} (hk : k < 64) : w.cell? ⟨g, n + k, none⟩ = some (.int .u8 (90 + (k : Int))) := by
  obtain ⟨g', hg', hc, _⟩ := own_at h (i := n + k) (by omega)
  obtain rfl : g = g' := by simpa using hg'
  rw [hc]
  have := mk_at 64 k hk
  simp only [List.getD] at this ⊢
  rw [List.getElem?_append_right (by omega), show n + k - bs.length = k by omega, this]
theorem Marked.cap {g n c : Nat} {bs : List Int} (h : Marked w B g n c bs) : n + 64 ≤ c := by
  rcases h.2 with ⟨h1, h2⟩ | ⟨g, cap, cur, hv, hg1, hg2, hnc, _⟩
  · omega
  · simp at hv; omega
end
end Go.Proofs.Ytnhhjelplmdloaa.Et
namespace Go.Proofs.Ytnhhjelplmdloaa.Et
open Go.RowKit Go.Maps
set_option linter.unusedVariables false
set_option linter.unusedSimpArgs false
set_option maxRecDepth 100000
structure Opx where
  k : Int
  p : Int
  q : Int
  n : Int
  ba : Option Addr
  bn : Nat
  bc : Nat
  sa : Option Addr
  sn : Nat
  sc : Nat
def Opx.cs (o : Opx) : Array Value := #[.int .i64 o.k, .int .i64 o.p, .int .i64 o.q, .int .i64 o.n, .slice o.ba o.bn o.bc, .slice o.sa o.sn o.sc]
theorem op_cells {w : World} {t : TypeId} {k : Nat} {o : Opx} (h : w.heap[k]? = some (.cells o.cs t (0, 0))) : w.cell? ⟨k, 0, none⟩ = some (.int .i64 o.k) ∧ w.cell? ⟨k, 1, none⟩ = some (.int .i64 o.p) ∧ w.cell? ⟨k, 2, none⟩ = some (.int .i64 o.q) ∧ w.cell? ⟨k, 3, none⟩ = some (.int .i64 o.n) ∧ w.cell? ⟨k, 4, none⟩ = some (.slice o.ba o.bn o.bc) ∧ w.cell? ⟨k, 5, none⟩ = some (.slice o.sa o.sn o.sc) :=
  ⟨blk_cell h 0, blk_cell h 1, blk_cell h 2, blk_cell h 3, blk_cell h 4, blk_cell h 5⟩
def RdI (w : World) (ao : Option Addr) (len cap : Nat) (xs : List Int) : Prop :=
  xs.length = len ∧ (ao = none → len = 0 ∧ cap = 0) ∧ (len = 0 ∨ ∃ b off, ao = some ⟨b, off, none⟩ ∧ ∀ i, i < len → w.cell? ⟨b, off + i, none⟩ = some (.int .i64 (xs.getD i 0)))
def sv (x : Int) : Value := .int .i64 x
def mks (k : Nat) : List Int := (List.range k).map fun (i : Nat) => (700 : Int) + (i : Int)
theorem mks_succ (k : Nat) : mks (k + 1) = mks k ++ [(700 : Int) + (k : Int)] := by simp [mks, List.range_succ]
theorem mks_len (k : Nat) : (mks k).length = k := by simp [mks]
theorem mks_at (k i : Nat) (hi : i < k) : (mks k).getD i 0 = 700 + (i : Int) := by simp [mks, List.getD, hi]
def MarkedI (w : World) (B g n c : Nat) (xs : List Int) : Prop := w.ownsRow B 3 1 (.slice (some ⟨g, 0, none⟩) (n + 64) c) (n + 64) ((xs ++ mks 64).map (Value.int .i64))
section
variable {w w' W w1 : World} {B m : Nat}
theorem RdI.still {ao : Option Addr} {len cap : Nat} {xs : List Int} (h : RdI w ao len cap xs) (hb : Below w.heap.size w w') : RdI w' ao len cap xs := by
  obtain ⟨h1, h2, h3⟩ := h
  refine ⟨h1, h2, h3.elim (fun hh => Or.inl hh) (fun hh => Or.inr ?_)⟩
  obtain ⟨b, off, rfl, hc⟩ := hh
  exact ⟨b, off, rfl, fun i hi => (hb.cell (World.block_lt_of_cell? w _ (hc i hi))).trans (hc i hi)⟩
theorem RdI.cells {ao : Option Addr} {len cap : Nat} {xs : List Int} (h : RdI w ao len cap xs) : ∀ ad, ao = some ad → ∀ j u, (xs.map (Value.int .i64))[j]? = some u → w.cell? (ad.add j) = some u := by
  intro a ha j v hv
  obtain ⟨hl, _, hc⟩ := h
  have hj : j < len := by have := (List.getElem?_eq_some_iff.1 hv).1; simpa [hl] using this
  rcases hc with hc | ⟨b, off, hao, hc⟩
  · omega
  · rw [ha] at hao
    obtain rfl : a = ⟨b, off, none⟩ := by simpa using hao
    have e : (⟨b, off, none⟩ : Addr).add j = ⟨b, off + j, none⟩ := by unfold Addr.add; split <;> simp_all
    rw [e, hc j hj]
    rw [List.getElem?_map, List.getElem?_eq_getElem (show j < xs.length by omega)] at hv
    simp only [Option.map_some, Option.some.injEq] at hv
    rw [← hv]
    simp [List.getD, List.getElem?_eq_getElem (show j < xs.length by omega)]
theorem ints_one (xs : List Int) : ∀ u ∈ xs.map (Value.int .i64), u.oneCell' = true := by
  intro u hu
  obtain ⟨_, _, rfl⟩ := List.mem_map.1 hu
  rfl
def put13 (W : World) (k : Nat) (v0 v1 v2 v3 v4 v5 v6 v7 v8 v9 v10 v11 v12 : Value) : World := (((((((((((((W.setCell ⟨k, 0, none⟩ v0).setCell ⟨k, 1, none⟩ v1).setCell ⟨k, 2, none⟩ v2).setCell ⟨k, 3, none⟩ v3).setCell ⟨k, 4, none⟩ v4).setCell ⟨k, 5, none⟩ v5).setCell ⟨k, 6, none⟩ v6).setCell ⟨k, 7, none⟩ v7).setCell ⟨k, 8, none⟩ v8).setCell ⟨k, 9, none⟩ v9).setCell ⟨k, 10, none⟩ v10).setCell ⟨k, 11, none⟩ v11).setCell ⟨k, 12, none⟩ v12)
theorem put13_eq (W : World) (k : Nat) (v0 v1 v2 v3 v4 v5 v6 v7 v8 v9 v10 v11 v12 : Value) : (((((((((((((W.setCell ⟨k, 0, none⟩ v0).setCell ⟨k, 1, none⟩ v1).setCell ⟨k, 2, none⟩ v2).setCell ⟨k, 3, none⟩ v3).setCell ⟨k, 4, none⟩ v4).setCell ⟨k, 5, none⟩ v5).setCell ⟨k, 6, none⟩ v6).setCell ⟨k, 7, none⟩ v7).setCell ⟨k, 8, none⟩ v8).setCell ⟨k, 9, none⟩ v9).setCell ⟨k, 10, none⟩ v10).setCell ⟨k, 11, none⟩ v11).setCell ⟨k, 12, none⟩ v12) = put13 W k v0 v1 v2 v3 v4 v5 v6 v7 v8 v9 v10 v11 v12 := rfl
theorem put13_blk {W : World} {k : Nat} {t : TypeId} {z0 z1 z2 z3 z4 z5 z6 z7 z8 z9 z10 z11 z12 : Value} (v0 v1 v2 v3 v4 v5 v6 v7 v8 v9 v10 v11 v12 : Value) (h : W.heap[k]? = some (.cells #[z0, z1, z2, z3, z4, z5, z6, z7, z8, z9, z10, z11, z12] t (0, 0))) : (put13 W k v0 v1 v2 v3 v4 v5 v6 v7 v8 v9 v10 v11 v12).heap[k]? = some (.cells #[v0, v1, v2, v3, v4, v5, v6, v7, v8, v9, v10, v11, v12] t (0, 0)) := by
  have h0 : (W.setCell ⟨k, 0, none⟩ v0).heap[k]? = some (.cells #[v0, z1, z2, z3, z4, z5, z6, z7, z8, z9, z10, z11, z12] t (0, 0)) := blk_set h rfl
  have h1 : ((W.setCell ⟨k, 0, none⟩ v0).setCell ⟨k, 1, none⟩ v1).heap[k]? = some (.cells #[v0, v1, z2, z3, z4, z5, z6, z7, z8, z9, z10, z11, z12] t (0, 0)) := blk_set h0 rfl
  have h2 : (((W.setCell ⟨k, 0, none⟩ v0).setCell ⟨k, 1, none⟩ v1).setCell ⟨k, 2, none⟩ v2).heap[k]? = some (.cells #[v0, v1, v2, z3, z4, z5, z6, z7, z8, z9, z10, z11, z12] t (0, 0)) := blk_set h1 rfl
  have h3 : ((((W.setCell ⟨k, 0, none⟩ v0).setCell ⟨k, 1, none⟩ v1).setCell ⟨k, 2, none⟩ v2).setCell ⟨k, 3, none⟩ v3).heap[k]? = some (.cells #[v0, v1, v2, v3, z4, z5, z6, z7, z8, z9, z10, z11, z12] t (0, 0)) := blk_set h2 rfl
  have h4 : (((((W.setCell ⟨k, 0, none⟩ v0).setCell ⟨k, 1, none⟩ v1).setCell ⟨k, 2, none⟩ v2).setCell ⟨k, 3, none⟩ v3).setCell ⟨k, 4, none⟩ v4).heap[k]? = some (.cells #[v0, v1, v2, v3, v4, z5, z6, z7, z8, z9, z10, z11, z12] t (0, 0)) := blk_set h3 rfl
  have h5 : ((((((W.setCell ⟨k, 0, none⟩ v0).setCell ⟨k, 1, none⟩ v1).setCell ⟨k, 2, none⟩ v2).setCell ⟨k, 3, none⟩ v3).setCell ⟨k, 4, none⟩ v4).setCell ⟨k, 5, none⟩ v5).heap[k]? = some (.cells #[v0, v1, v2, v3, v4, v5, z6, z7, z8, z9, z10, z11, z12] t (0, 0)) := blk_set h4 rfl
  have h6 : (((((((W.setCell ⟨k, 0, none⟩ v0).setCell ⟨k, 1, none⟩ v1).setCell ⟨k, 2, none⟩ v2).setCell ⟨k, 3, none⟩ v3).setCell ⟨k, 4, none⟩ v4).setCell ⟨k, 5, none⟩ v5).setCell ⟨k, 6, none⟩ v6).heap[k]? = some (.cells #[v0, v1, v2, v3, v4, v5, v6, z7, z8, z9, z10, z11, z12] t (0, 0)) := blk_set h5 rfl
  have h7 : ((((((((W.setCell ⟨k, 0, none⟩ v0).setCell ⟨k, 1, none⟩ v1).setCell ⟨k, 2, none⟩ v2).setCell ⟨k, 3, none⟩ v3).setCell ⟨k, 4, none⟩ v4).setCell ⟨k, 5, none⟩ v5).setCell ⟨k, 6, none⟩ v6).setCell ⟨k, 7, none⟩ v7).heap[k]? = some (.cells #[v0, v1, v2, v3, v4, v5, v6, v7, z8, z9, z10, z11, z12] t (0, 0)) := blk_set h6 rfl
  have h8 : (((((((((W.setCell ⟨k, 0, none⟩ v0).setCell ⟨k, 1, none⟩ v1).setCell ⟨k, 2, none⟩ v2).setCell ⟨k, 3, none⟩ v3).setCell ⟨k, 4, none⟩ v4).setCell ⟨k, 5, none⟩ v5).setCell ⟨k, 6, none⟩ v6).setCell ⟨k, 7, none⟩ v7).setCell ⟨k, 8, none⟩ v8).heap[k]? = some (.cells #[v0, v1, v2, v3, v4, v5, v6, v7, v8, z9, z10, z11, z12] t (0, 0)) := blk_set h7 rfl
  have h9 : ((((((((((W.setCell ⟨k, 0, none⟩ v0).setCell ⟨k, 1, none⟩ v1).setCell ⟨k, 2, none⟩ v2).setCell ⟨k, 3, none⟩ v3).setCell ⟨k, 4, none⟩ v4).setCell ⟨k, 5, none⟩ v5).setCell ⟨k, 6, none⟩ v6).setCell ⟨k, 7, none⟩ v7).setCell ⟨k, 8, none⟩ v8).setCell ⟨k, 9, none⟩ v9).heap[k]? = some (.cells #[v0, v1, v2, v3, v4, v5, v6, v7, v8, v9, z10, z11, z12] t (0, 0)) := blk_set h8 rfl
  have h10 : (((((((((((W.setCell ⟨k, 0, none⟩ v0).setCell ⟨k, 1, none⟩ v1).setCell ⟨k, 2, none⟩ v2).setCell ⟨k, 3, none⟩ v3).setCell ⟨k, 4, none⟩ v4).setCell ⟨k, 5, none⟩ v5).setCell ⟨k, 6, none⟩ v6).setCell ⟨k, 7, none⟩ v7).setCell ⟨k, 8, none⟩ v8).setCell ⟨k, 9, none⟩ v9).setCell ⟨k, 10, none⟩ v10).heap[k]? = some (.cells #[v0, v1, v2, v3, v4, v5, v6, v7, v8, v9, v10, z11, z12] t (0, 0)) := blk_set h9 rfl
  have h11 : ((((((((((((W.setCell ⟨k, 0, none⟩ v0).setCell ⟨k, 1, none⟩ v1).setCell ⟨k, 2, none⟩ v2).setCell ⟨k, 3, none⟩ v3).setCell ⟨k, 4, none⟩ v4).setCell ⟨k, 5, none⟩ v5).setCell ⟨k, 6, none⟩ v6).setCell ⟨k, 7, none⟩ v7).setCell ⟨k, 8, none⟩ v8).setCell ⟨k, 9, none⟩ v9).setCell ⟨k, 10, none⟩ v10).setCell ⟨k, 11, none⟩ v11).heap[k]? = some (.cells #[v0, v1, v2, v3, v4, v5, v6, v7, v8, v9, v10, v11, z12] t (0, 0)) := blk_set h10 rfl
  have h12 : (((((((((((((W.setCell ⟨k, 0, none⟩ v0).setCell ⟨k, 1, none⟩ v1).setCell ⟨k, 2, none⟩ v2).setCell ⟨k, 3, none⟩ v3).setCell ⟨k, 4, none⟩ v4).setCell ⟨k, 5, none⟩ v5).setCell ⟨k, 6, none⟩ v6).setCell ⟨k, 7, none⟩ v7).setCell ⟨k, 8, none⟩ v8).setCell ⟨k, 9, none⟩ v9).setCell ⟨k, 10, none⟩ v10).setCell ⟨k, 11, none⟩ v11).setCell ⟨k, 12, none⟩ v12).heap[k]? = some (.cells #[v0, v1, v2, v3, v4, v5, v6, v7, v8, v9, v10, v11, v12] t (0, 0)) := blk_set h11 rfl
  exact h12
theorem put13_kept {W : World} (k : Nat) (v0 v1 v2 v3 v4 v5 v6 v7 v8 v9 v10 v11 v12 : Value) : Kept W (put13 W k v0 v1 v2 v3 v4 v5 v6 v7 v8 v9 v10 v11 v12) (fun j => j = k) := by
  unfold put13
  iterate 12 (refine Kept.trans ?_ (kset _ _ _ _ rfl))
  exact kset _ _ _ _ rfl
set_option maxHeartbeats 1000000 in
theorem event_any (o : Opx) (bs xs : List Int) (hb : Rd w o.ba o.bn o.bc bs) (hs : RdI w o.sa o.sn o.sc xs) (hbn : o.bn ≤ 140737488351232) (hsn : o.sn ≤ 17592186043904) (hk1 : 20 < o.k) (hk2 : o.k ≤ 60) : Calls Try.prog 33 #[.agg o.cs] w fun e w' => ∃ gb cb gs cs, e = .returned (.agg (Ev.cs ⟨o.k - 20, o.p, o.q, o.n, some ⟨gb, 0, none⟩, o.bn, cb, some ⟨gs, 0, none⟩, o.sn, cs⟩)) ∧ Marked w' w.heap.size gb o.bn cb bs ∧ MarkedI w' w.heap.size gs o.sn cs xs ∧ Below w.heap.size w w' := by
  obtain ⟨i0, hi, hz0, hz1, hz2⟩ := info_parts info_i
  generalize hW : (w.alloc (.cells o.cs 46)).alloc (.cells #[.int .i64 0, .int .i64 0, .int .i64 0, .int .i64 0, .slice none 0 0, .int .i64 0, .int .i64 0, .int .i64 0, .int .i64 0, .string ⟨#[]⟩, .string ⟨#[]⟩, .string ⟨#[]⟩, .slice none 0 0] 90) = W
  have hbW : Below w.heap.size w W := by rw [← hW]; exact balloc (balloc (Below.refl _ w))
  have hWs : W.heap.size = w.heap.size + 1 + 1 := by rw [← hW]; simp
  have hblk : W.heap[w.heap.size]? = some (.cells o.cs 46 (0, 0)) := by rw [← hW]; exact blk_alloc (heap_alloc_new w _)
  have hblk2 : W.heap[w.heap.size + 1]? = some (.cells #[.int .i64 0, .int .i64 0, .int .i64 0, .int .i64 0, .slice none 0 0, .int .i64 0, .int .i64 0, .int .i64 0, .int .i64 0, .string ⟨#[]⟩, .string ⟨#[]⟩, .string ⟨#[]⟩, .slice none 0 0] 90 (0, 0)) := by
    rw [← hW]
    have := heap_alloc_new (w.alloc (.cells o.cs 46)) (.cells #[.int .i64 0, .int .i64 0, .int .i64 0, .int .i64 0, .slice none 0 0, .int .i64 0, .int .i64 0, .int .i64 0, .int .i64 0, .string ⟨#[]⟩, .string ⟨#[]⟩, .string ⟨#[]⟩, .slice none 0 0] 90)
    simpa using this
  obtain ⟨d0, d1, d2, d3, d4, d5⟩ := op_cells hblk
  have Hb : Hid (Below w.heap.size w W) := hbW
  have HB1 : Hid (W.heap[w.heap.size]? = some (.cells o.cs 46 (0, 0))) := hblk
  have HB2 : Hid (W.heap[w.heap.size + 1]? = some (.cells #[.int .i64 0, .int .i64 0, .int .i64 0, .int .i64 0, .slice none 0 0, .int .i64 0, .int .i64 0, .int .i64 0, .int .i64 0, .string ⟨#[]⟩, .string ⟨#[]⟩, .string ⟨#[]⟩, .slice none 0 0] 90 (0, 0))) := hblk2
  have HS : Hid (RdI W o.sa o.sn o.sc xs) := hs.still hbW
  have hxl := hs.1
  have HC : Hid (∀ w', Below w.heap.size w w' → Calls Try.prog 54 #[.slice o.ba o.bn o.bc] w' fun e w2 => ∃ g cap, e = .returned (.slice (some ⟨g, 0, none⟩) o.bn cap) ∧ Marked w2 w'.heap.size g o.bn cap bs ∧ Below w'.heap.size w' w2) := fun w' hb' => spare_any (hb.still hb') hbn
  unfold Opx.cs at hW ⊢
  have hW1 : w.heap.size + 1 < W.heap.size := by omega
  clear hbW hblk hblk2 hb hs hWs
  go_enter Try.func33, Try.ntmps33
  go_wp2_with (first
    | (at_builtin; go_loud (refine wpList_append_rd _ rfl _ _ 30 rfl W.heap.size 3 i0 (.int .i64 0) 8 Try.underlying30 hi hz0 hz1 hz2 rfl (.slice none 0 0) 0 [] rfl (row_nil _ _ _ _) _ _ _ (xs.map (Value.int .i64)) rfl HS.out.2.1 (by simpa using hxl) (HS.out.cells) (ints_one xs) ?c1 ?c2 (Nat.le_refl _) ?_))
    | fail)
  case c1 => unfold maxLen; omega
  case c2 => omega
  intro v' w2 hown' hgrow
  have HO : Hid (w2.ownsRow W.heap.size 3 1 v' o.sn (xs.map (Value.int .i64))) := by
    show World.ownsRow _ _ _ _ _ _ _
    simpa using hown'
  have HB : Hid (Below W.heap.size W w2) := (Below.refl _ W).grown hgrow (Nat.le_refl _) (fun k hk => by simp [Value.ownBlock] at hk)
  clear hown' hgrow
  go_wp2
  go_loopw [3, 4] (fun v i wr => ∃ k : Nat, k ≤ 64 ∧ i = .int .i64 k ∧ wr.ownsRow W.heap.size 3 1 v (o.sn + k) ((xs ++ mks k).map (Value.int .i64)) ∧ Below W.heap.size W wr) (fun _ i _ => 64 - (intOf i).toNat)
  case atStart => exact ⟨0, Nat.zero_le _, rfl, by simpa [mks] using HO.out, HB.out⟩
  case round =>
    obtain ⟨k, hk, rfl, ho, hb⟩ := hrel
    by_cases hlt : k < 64
    · have HO : Hid (wr.ownsRow W.heap.size 3 1 u3 (o.sn + k) ((xs ++ mks k).map (Value.int .i64))) := ho
      have HB : Hid (Below W.heap.size W wr) := hb
      have hws := hb.size
      have i1 : (0 : Int) ≤ (k : Int) := Int.natCast_nonneg _
      have i2 : (k : Int) < 64 := by omega
      have Hmk : Hid ((xs ++ mks (k + 1)).map (Value.int .i64) = (xs ++ mks k).map (Value.int .i64) ++ [.int .i64 (700 + (k : Int))]) := by
        show _ = _
        rw [mks_succ]; simp
      generalize (xs ++ mks k).map (Value.int .i64) = T at HO Hmk
      clear ho hb
      go_wp2_with (first
        | (at_builtin; refine wpList_append_lies _ rfl _ _ 30 rfl W.heap.size 3 i0 (.int .i64 0) 1 8 Try.underlying30 hi hz0 hz1 hz2 rfl (by omega) u3 (o.sn + k) T rfl (World.ownsRow.alloc HO.out _) _ 1 1 _ rfl rfl (World.news_of_block (heap_alloc_new _ _)) (by simp [Value.oneCell']) (by omega) (by unfold maxLen; omega) (by omega) (by simp; omega) _ rfl ?_; intro g3 cap3 w3 hown3 hgrow3 hat3 hlt3)
        | fail)
      have hb3 : Below W.heap.size W w3 := (balloc HB.out).grown hgrow3 (by simp; omega) (fun q hq => (World.ownsRow.lt HO.out q hq).1)
      clear hgrow3 hat3
      first
        | exact ⟨⟨k + 1, by omega, by go_num, by rw [Hmk.out, ← Nat.add_assoc]; simpa using hown3, hb3⟩, by simp [intOf]; omega⟩
        | (go_roundw
           case rel => exact ⟨k + 1, by omega, by go_num, by rw [Hmk.out, ← Nat.add_assoc]; simpa using hown3, hb3⟩
           case measure => simp [intOf]; omega)
    · obtain rfl : k = 64 := by omega
      rcases ho.2 with ⟨h1, h2⟩ | ⟨gs, cs, cur, hv, hg1, hg2, hnc, _⟩
      · omega
      · subst hv
        have i1 : (0 : Int) ≤ (o.sn : Int) := Int.natCast_nonneg _
        have i2 : (o.sn : Int) ≤ (cs : Int) := by omega
        have HO : Hid (MarkedI wr W.heap.size gs o.sn cs xs) := ho
        have HBw : Hid (Below W.heap.size W wr) := hb
        have HBx : Hid (Below w.heap.size w wr) := bstep Hb.out hb
        obtain ⟨d0, d1, d2, d3, d4, d5⟩ := op_cells ((hb.block _ (by omega)).trans HB1.out)
        have HZ : Hid (wr.heap[w.heap.size + 1]? = some (.cells #[.int .i64 0, .int .i64 0, .int .i64 0, .int .i64 0, .slice none 0 0, .int .i64 0, .int .i64 0, .int .i64 0, .int .i64 0, .string ⟨#[]⟩, .string ⟨#[]⟩, .string ⟨#[]⟩, .slice none 0 0] 90 (0, 0))) := (hb.block _ (by omega)).trans HB2.out
        have hws := hb.size
        have hwk : IntKind.i64.wrap (o.k - 20) = o.k - 20 := wrap_id (by omega) (by omega)
        clear ho hg2 hb
        go_wp2
        refine wp_region_held_drew (S := (fun w' => w'.cell? ⟨w.heap.size, 0, none⟩ = some (.int .i64 o.k) ∧ w'.cell? ⟨w.heap.size, 1, none⟩ = some (.int .i64 o.p) ∧ w'.cell? ⟨w.heap.size, 2, none⟩ = some (.int .i64 o.q) ∧ w'.cell? ⟨w.heap.size, 3, none⟩ = some (.int .i64 o.n) ∧ w'.cell? ⟨w.heap.size, 4, none⟩ = some (.slice o.ba o.bn o.bc) ∧ w'.cell? ⟨w.heap.size, 5, none⟩ = some (.slice o.sa o.sn o.sc))) (by kernel_rfl) ⟨d0, d1, d2, d3, d4, d5⟩ (fun hHeld => ?_)
        simp only [Act.put, List.size_toArray, List.length_cons, List.length_nil, Nat.zero_add]
        refine wpAnyH_take (i := 0) (v := .pointer (some ⟨w.heap.size, 0, none⟩)) rfl (by kernel_rfl) (by kernel_rfl) (by kernel_rfl) (fun _ _ _ h => h) (Or.inl ⟨by rfl, fun w' hS => by go_simp⟩) hHeld ?_
        simp only [Act.put, List.getElem_toArray, List.getElem_cons_zero, List.getElem_cons_succ, List.setIfInBounds_toArray, List.set_cons_zero, List.set_cons_succ]
        refine wpAnyH_take (i := 1) (v := .int .i64 o.k) rfl (by kernel_rfl) (by kernel_rfl) (by kernel_rfl) (fun _ _ _ h => h) (Or.inl ⟨by rfl, fun w' hS => by (obtain ⟨s0, s1, s2, s3, s4, s5⟩ := hS; go_simp)⟩) hHeld ?_
        simp only [Act.put, List.getElem_toArray, List.getElem_cons_zero, List.getElem_cons_succ, List.setIfInBounds_toArray, List.set_cons_zero, List.set_cons_succ]
        refine wpAnyH_take (i := 2) (v := .int .i64 (o.k - 20)) rfl (by kernel_rfl) (by kernel_rfl) (by kernel_rfl) (fun _ _ _ h => h) (Or.inl ⟨by rfl, fun w' hS => by go_simp⟩) hHeld ?_
        simp only [Act.put, List.getElem_toArray, List.getElem_cons_zero, List.getElem_cons_succ, List.setIfInBounds_toArray, List.set_cons_zero, List.set_cons_succ]
        refine wpAnyH_take (i := 3) (v := .pointer (some ⟨w.heap.size, 1, none⟩)) rfl (by kernel_rfl) (by kernel_rfl) (by kernel_rfl) (fun _ _ _ h => h) (Or.inl ⟨by rfl, fun w' hS => by go_simp⟩) hHeld ?_
        simp only [Act.put, List.getElem_toArray, List.getElem_cons_zero, List.getElem_cons_succ, List.setIfInBounds_toArray, List.set_cons_zero, List.set_cons_succ]
        refine wpAnyH_take (i := 4) (v := .int .i64 o.p) rfl (by kernel_rfl) (by kernel_rfl) (by kernel_rfl) (fun _ _ _ h => h) (Or.inl ⟨by rfl, fun w' hS => by (obtain ⟨s0, s1, s2, s3, s4, s5⟩ := hS; go_simp)⟩) hHeld ?_
        simp only [Act.put, List.getElem_toArray, List.getElem_cons_zero, List.getElem_cons_succ, List.setIfInBounds_toArray, List.set_cons_zero, List.set_cons_succ]
        refine wpAnyH_take (i := 5) (v := .pointer (some ⟨w.heap.size, 2, none⟩)) rfl (by kernel_rfl) (by kernel_rfl) (by kernel_rfl) (fun _ _ _ h => h) (Or.inl ⟨by rfl, fun w' hS => by go_simp⟩) hHeld ?_
        simp only [Act.put, List.getElem_toArray, List.getElem_cons_zero, List.getElem_cons_succ, List.setIfInBounds_toArray, List.set_cons_zero, List.set_cons_succ]
        refine wpAnyH_take (i := 6) (v := .int .i64 o.q) rfl (by kernel_rfl) (by kernel_rfl) (by kernel_rfl) (fun _ _ _ h => h) (Or.inl ⟨by rfl, fun w' hS => by (obtain ⟨s0, s1, s2, s3, s4, s5⟩ := hS; go_simp)⟩) hHeld ?_
        simp only [Act.put, List.getElem_toArray, List.getElem_cons_zero, List.getElem_cons_succ, List.setIfInBounds_toArray, List.set_cons_zero, List.set_cons_succ]
        refine wpAnyH_take (i := 7) (v := .pointer (some ⟨w.heap.size, 3, none⟩)) rfl (by kernel_rfl) (by kernel_rfl) (by kernel_rfl) (fun _ _ _ h => h) (Or.inl ⟨by rfl, fun w' hS => by go_simp⟩) hHeld ?_
        simp only [Act.put, List.getElem_toArray, List.getElem_cons_zero, List.getElem_cons_succ, List.setIfInBounds_toArray, List.set_cons_zero, List.set_cons_succ]
        refine wpAnyH_take (i := 8) (v := .int .i64 o.n) rfl (by kernel_rfl) (by kernel_rfl) (by kernel_rfl) (fun _ _ _ h => h) (Or.inl ⟨by rfl, fun w' hS => by (obtain ⟨s0, s1, s2, s3, s4, s5⟩ := hS; go_simp)⟩) hHeld ?_
        simp only [Act.put, List.getElem_toArray, List.getElem_cons_zero, List.getElem_cons_succ, List.setIfInBounds_toArray, List.set_cons_zero, List.set_cons_succ]
        refine wpAnyH_take (i := 9) (v := .pointer (some ⟨w.heap.size, 4, none⟩)) rfl (by kernel_rfl) (by kernel_rfl) (by kernel_rfl) (fun _ _ _ h => h) (Or.inl ⟨by rfl, fun w' hS => by go_simp⟩) hHeld ?_
        simp only [Act.put, List.getElem_toArray, List.getElem_cons_zero, List.getElem_cons_succ, List.setIfInBounds_toArray, List.set_cons_zero, List.set_cons_succ]
        refine wpAnyH_take (i := 10) (v := .slice o.ba o.bn o.bc) rfl (by kernel_rfl) (by kernel_rfl) (by kernel_rfl) (fun _ _ _ h => h) (Or.inl ⟨by rfl, fun w' hS => by (obtain ⟨s0, s1, s2, s3, s4, s5⟩ := hS; go_simp)⟩) hHeld ?_
        simp only [Act.put, List.getElem_toArray, List.getElem_cons_zero, List.getElem_cons_succ, List.setIfInBounds_toArray, List.set_cons_zero, List.set_cons_succ]
        refine wpAnyH_take (i := 12) (v := .slice (some ⟨gs, 0, none⟩) (o.sn + 64) cs) rfl (by kernel_rfl) (by kernel_rfl) (by kernel_rfl) (fun _ _ _ h => h) (Or.inl ⟨by rfl, fun w' hS => by go_simp⟩) hHeld ?_
        simp only [Act.put, List.getElem_toArray, List.getElem_cons_zero, List.getElem_cons_succ, List.setIfInBounds_toArray, List.set_cons_zero, List.set_cons_succ]
        refine wpAnyH_take (i := 13) (v := .pointer (some ⟨w.heap.size, 5, none⟩)) rfl (by kernel_rfl) (by kernel_rfl) (by kernel_rfl) (fun _ _ _ h => h) (Or.inl ⟨by rfl, fun w' hS => by go_simp⟩) hHeld ?_
        simp only [Act.put, List.getElem_toArray, List.getElem_cons_zero, List.getElem_cons_succ, List.setIfInBounds_toArray, List.set_cons_zero, List.set_cons_succ]
        refine wpAnyH_take (i := 14) (v := .slice o.sa o.sn o.sc) rfl (by kernel_rfl) (by kernel_rfl) (by kernel_rfl) (fun _ _ _ h => h) (Or.inl ⟨by rfl, fun w' hS => by (obtain ⟨s0, s1, s2, s3, s4, s5⟩ := hS; go_simp)⟩) hHeld ?_
        simp only [Act.put, List.getElem_toArray, List.getElem_cons_zero, List.getElem_cons_succ, List.setIfInBounds_toArray, List.set_cons_zero, List.set_cons_succ]
        refine wpAnyH_take (i := 15) (v := .int .i64 (o.sn : Int)) rfl (by kernel_rfl) (by kernel_rfl) (by kernel_rfl) (fun _ _ _ h => h) (Or.inl ⟨by rfl, fun w' hS => by go_simp⟩) hHeld ?_
        simp only [Act.put, List.getElem_toArray, List.getElem_cons_zero, List.getElem_cons_succ, List.setIfInBounds_toArray, List.set_cons_zero, List.set_cons_succ]
        refine wpAnyH_take (i := 16) (v := .slice (some ⟨gs, 0, none⟩) o.sn cs) rfl (by kernel_rfl) (by kernel_rfl) (by kernel_rfl) (fun _ _ _ h => h) (Or.inl ⟨by rfl, fun w' hS => by go_simp⟩) hHeld ?_
        simp only [Act.put, List.getElem_toArray, List.getElem_cons_zero, List.getElem_cons_succ, List.setIfInBounds_toArray, List.set_cons_zero, List.set_cons_succ]
        refine wpAnyH_ready (rs := [11]) (by kernel_rfl) (by simp) ?_
        refine AllReadyH.cons rfl (fun K hK => ?_) AllReadyH.nil
        go_simp
        refine (HC.out _ (by repeat (first | exact HBx.out | apply Below.drew))).mono ?_
        rintro e w2 ⟨gb, cb, rfl, hmk, hb2⟩
        have B2 : Below wr.heap.size wr w2 := bstep (by repeat (first | exact Below.refl _ _ | apply Below.drew)) hb2
        have t0 := below_at B2 d0
        have t1 := below_at B2 d1
        have t2 := below_at B2 d2
        have t3 := below_at B2 d3
        have t4 := below_at B2 d4
        have t5 := below_at B2 d5
        refine hK.out _ _ ⟨t0, t1, t2, t3, t4, t5⟩ (fun hHeld => ?_)
        clear hK K
        have z0 := (B2.block _ (by omega)).trans HZ.out
        have c0 : w2.cell? ⟨w.heap.size + 1, 0, none⟩ = some (.int .i64 0) := blk_cell z0 0
        have f0 : w2.frozen? ⟨w.heap.size + 1, 0, none⟩ = false := frozen_of_row w2 _ 0 _ _ z0
        have c1 : w2.cell? ⟨w.heap.size + 1, 1, none⟩ = some (.int .i64 0) := blk_cell z0 1
        have f1 : w2.frozen? ⟨w.heap.size + 1, 1, none⟩ = false := frozen_of_row w2 _ 1 _ _ z0
        have c2 : w2.cell? ⟨w.heap.size + 1, 2, none⟩ = some (.int .i64 0) := blk_cell z0 2
        have f2 : w2.frozen? ⟨w.heap.size + 1, 2, none⟩ = false := frozen_of_row w2 _ 2 _ _ z0
        have c3 : w2.cell? ⟨w.heap.size + 1, 3, none⟩ = some (.int .i64 0) := blk_cell z0 3
        have f3 : w2.frozen? ⟨w.heap.size + 1, 3, none⟩ = false := frozen_of_row w2 _ 3 _ _ z0
        have c4 : w2.cell? ⟨w.heap.size + 1, 4, none⟩ = some (.slice none 0 0) := blk_cell z0 4
        have f4 : w2.frozen? ⟨w.heap.size + 1, 4, none⟩ = false := frozen_of_row w2 _ 4 _ _ z0
        have c5 : w2.cell? ⟨w.heap.size + 1, 5, none⟩ = some (.int .i64 0) := blk_cell z0 5
        have f5 : w2.frozen? ⟨w.heap.size + 1, 5, none⟩ = false := frozen_of_row w2 _ 5 _ _ z0
        have c6 : w2.cell? ⟨w.heap.size + 1, 6, none⟩ = some (.int .i64 0) := blk_cell z0 6
        have f6 : w2.frozen? ⟨w.heap.size + 1, 6, none⟩ = false := frozen_of_row w2 _ 6 _ _ z0
        have c7 : w2.cell? ⟨w.heap.size + 1, 7, none⟩ = some (.int .i64 0) := blk_cell z0 7
        have f7 : w2.frozen? ⟨w.heap.size + 1, 7, none⟩ = false := frozen_of_row w2 _ 7 _ _ z0
        have c8 : w2.cell? ⟨w.heap.size + 1, 8, none⟩ = some (.int .i64 0) := blk_cell z0 8
        have f8 : w2.frozen? ⟨w.heap.size + 1, 8, none⟩ = false := frozen_of_row w2 _ 8 _ _ z0
        have c9 : w2.cell? ⟨w.heap.size + 1, 9, none⟩ = some (.string ⟨#[]⟩) := blk_cell z0 9
        have f9 : w2.frozen? ⟨w.heap.size + 1, 9, none⟩ = false := frozen_of_row w2 _ 9 _ _ z0
        have c10 : w2.cell? ⟨w.heap.size + 1, 10, none⟩ = some (.string ⟨#[]⟩) := blk_cell z0 10
        have f10 : w2.frozen? ⟨w.heap.size + 1, 10, none⟩ = false := frozen_of_row w2 _ 10 _ _ z0
        have c11 : w2.cell? ⟨w.heap.size + 1, 11, none⟩ = some (.string ⟨#[]⟩) := blk_cell z0 11
        have f11 : w2.frozen? ⟨w.heap.size + 1, 11, none⟩ = false := frozen_of_row w2 _ 11 _ _ z0
        have c12 : w2.cell? ⟨w.heap.size + 1, 12, none⟩ = some (.slice none 0 0) := blk_cell z0 12
        have f12 : w2.frozen? ⟨w.heap.size + 1, 12, none⟩ = false := frozen_of_row w2 _ 12 _ _ z0
        refine wpAnyH_take (i := 17) (v := .agg #[.int .i64 (o.k - 20), .int .i64 o.p, .int .i64 o.q, .int .i64 o.n, .slice (some ⟨gb, 0, none⟩) o.bn cb, .int .i64 0, .int .i64 0, .int .i64 0, .int .i64 0, .string ⟨#[]⟩, .string ⟨#[]⟩, .string ⟨#[]⟩, .slice (some ⟨gs, 0, none⟩) o.sn cs]) rfl (by kernel_rfl) (by kernel_rfl) (by kernel_rfl) (fun _ _ _ h => h) (Or.inl ⟨by rfl, fun w' hS => by go_simp⟩) hHeld ?_
        simp only [Act.put, List.getElem_toArray, List.getElem_cons_zero, List.getElem_cons_succ, List.setIfInBounds_toArray, List.set_cons_zero, List.set_cons_succ]
        refine wpAnyH_ready (rs := [18]) (by kernel_rfl) (by simp) ?_
        refine AllReadyH.cons rfl (fun K hK => ?_) AllReadyH.nil
        go_simp
        have hfar : ∀ {i : Nat} {u : Value}, w2.cell? ⟨w.heap.size, i, none⟩ = some u → w2.cell? ⟨w.heap.size, i, none⟩ = some u := fun h => h
        refine hK.out _ _ ⟨?_, ?_, ?_, ?_, ?_, ?_⟩ (fun hHeld => ?_)
        iterate 6 (iterate 13 refine set_far ?_ (by omega)); first | exact t0 | exact t1 | exact t2 | exact t3 | exact t4 | exact t5
        clear hK K
        refine wpAnyH_done (by kernel_rfl) ?_ _
        clear hHeld
        rw [put13_eq]
        have zz := put13_blk (.int .i64 (o.k - 20)) (.int .i64 o.p) (.int .i64 o.q) (.int .i64 o.n) (.slice (some ⟨gb, 0, none⟩) o.bn cb) (.int .i64 0) (.int .i64 0) (.int .i64 0) (.int .i64 0) (.string ⟨#[]⟩) (.string ⟨#[]⟩) (.string ⟨#[]⟩) (.slice (some ⟨gs, 0, none⟩) o.sn cs) z0
        have kp := put13_kept (W := w2) (w.heap.size + 1) (.int .i64 (o.k - 20)) (.int .i64 o.p) (.int .i64 o.q) (.int .i64 o.n) (.slice (some ⟨gb, 0, none⟩) o.bn cb) (.int .i64 0) (.int .i64 0) (.int .i64 0) (.int .i64 0) (.string ⟨#[]⟩) (.string ⟨#[]⟩) (.string ⟨#[]⟩) (.slice (some ⟨gs, 0, none⟩) o.sn cs)
        have hX1 : Marked (put13 w2 (w.heap.size + 1) (.int .i64 (o.k - 20)) (.int .i64 o.p) (.int .i64 o.q) (.int .i64 o.n) (.slice (some ⟨gb, 0, none⟩) o.bn cb) (.int .i64 0) (.int .i64 0) (.int .i64 0) (.int .i64 0) (.string ⟨#[]⟩) (.string ⟨#[]⟩) (.string ⟨#[]⟩) (.slice (some ⟨gs, 0, none⟩) o.sn cs)) w.heap.size gb o.bn cb bs := kp.owns (own_lower hmk (by have := HBx.out.size; simpa using this)) (fun j hj e => by have := (World.ownsRow.lt hmk j hj).1; simp at this; omega)
        have hX2 : MarkedI (put13 w2 (w.heap.size + 1) (.int .i64 (o.k - 20)) (.int .i64 o.p) (.int .i64 o.q) (.int .i64 o.n) (.slice (some ⟨gb, 0, none⟩) o.bn cb) (.int .i64 0) (.int .i64 0) (.int .i64 0) (.int .i64 0) (.string ⟨#[]⟩) (.string ⟨#[]⟩) (.string ⟨#[]⟩) (.slice (some ⟨gs, 0, none⟩) o.sn cs)) w.heap.size gs o.sn cs xs := kp.owns (own_lower (own_still HO.out B2) (by omega)) (fun j hj e => by have := (World.ownsRow.lt HO.out j hj).1; omega)
        have hX3 : Below w.heap.size w (put13 w2 (w.heap.size + 1) (.int .i64 (o.k - 20)) (.int .i64 o.p) (.int .i64 o.q) (.int .i64 o.n) (.slice (some ⟨gb, 0, none⟩) o.bn cb) (.int .i64 0) (.int .i64 0) (.int .i64 0) (.int .i64 0) (.string ⟨#[]⟩) (.string ⟨#[]⟩) (.string ⟨#[]⟩) (.slice (some ⟨gs, 0, none⟩) o.sn cs)) := (bstep HBx.out B2).trans (kp.below (by have := HBx.out.size; have := B2.size; omega) (fun j hj e => by omega))
        generalize put13 w2 (w.heap.size + 1) (.int .i64 (o.k - 20)) (.int .i64 o.p) (.int .i64 o.q) (.int .i64 o.n) (.slice (some ⟨gb, 0, none⟩) o.bn cb) (.int .i64 0) (.int .i64 0) (.int .i64 0) (.int .i64 0) (.string ⟨#[]⟩) (.string ⟨#[]⟩) (.string ⟨#[]⟩) (.slice (some ⟨gs, 0, none⟩) o.sn cs) = X at zz hX1 hX2 hX3 ⊢
        have q0 := blk_cell zz 0
        have q1 := blk_cell zz 1
        have q2 := blk_cell zz 2
        have q3 := blk_cell zz 3
        have q4 := blk_cell zz 4
        have q5 := blk_cell zz 5
        have q6 := blk_cell zz 6
        have q7 := blk_cell zz 7
        have q8 := blk_cell zz 8
        have q9 := blk_cell zz 9
        have q10 := blk_cell zz 10
        have q11 := blk_cell zz 11
        have q12 := blk_cell zz 12
        simp only [List.getElem?_toArray, List.getElem?_cons_zero, List.getElem?_cons_succ] at q0 q1 q2 q3 q4 q5 q6 q7 q8 q9 q10 q11 q12
        clear z0 c0 c1 c2 c3 c4 c5 c6 c7 c8 c9 c10 c11 c12 f0 f1 f2 f3 f4 f5 f6 f7 f8 f9 f10 f11 f12 t0 t1 t2 t3 t4 t5 d0 d1 d2 d3 d4 d5 zz kp
        go_wp2
        exact bodyPost_ret (v := .agg #[.int .i64 (o.k - 20), .int .i64 o.p, .int .i64 o.q, .int .i64 o.n, .slice (some ⟨gb, 0, none⟩) o.bn cb, .int .i64 0, .int .i64 0, .int .i64 0, .int .i64 0, .string ⟨#[]⟩, .string ⟨#[]⟩, .string ⟨#[]⟩, .slice (some ⟨gs, 0, none⟩) o.sn cs]) (by simp [results, Try.results33, go_sem, q0, q1, q2, q3, q4, q5, q6, q7, q8, q9, q10, q11, q12]) rfl ⟨gb, cb, gs, cs, rfl, hX1, hX2, hX3⟩
end
end Go.Proofs.Ytnhhjelplmdloaa.Et
