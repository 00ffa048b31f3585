import Derived.Test.YtnhhjelplmdloaaV37
import Derived.Deep.DeepCutAuto
namespace Go.Proofs.Ytnhhjelplmdloaa.Et
open Go.RowKit Go.Maps
set_option linter.unusedVariables false
set_option linter.unusedSimpArgs false
set_option maxRecDepth 100000
section
variable {w w' w0 w1 w2 w3 : World} {B T s : Nat}
theorem tTB : ∃ i : TypeInfo, Try.prog.info? 35 = some i ∧ i.zero = some (.slice none 0 0) ∧ i.size = 1 ∧ i.bytes = 24 := tB
theorem tTFs : ∃ i : TypeInfo, Try.prog.info? 39 = some i ∧ i.zero = some (.slice none 0 0) ∧ i.size = 1 ∧ i.bytes = 24 := by
  have h : (Try.prog.info? 39).map (fun i => (i.zero, i.size, i.bytes)) = some (some (.slice none 0 0), 1, 24) := by kernel_rfl
  cases hi : Try.prog.info? 39 with
  | none => rw [hi] at h; cases h
  | some i =>
    rw [hi] at h
    simp at h
    exact ⟨i, rfl, h.1, h.2.1, h.2.2⟩
theorem tFl5 : ∃ i : TypeInfo, Try.prog.info? 43 = some i ∧ i.zero = some (.agg #[.int .i64 0, .int .i64 0, .int .i64 0, .int .i64 0, .slice none 0 0]) ∧ i.size = 5 ∧ i.bytes = 56 := by
  obtain ⟨i, h1, h2, h3, h4⟩ := info_parts info_fl
  exact ⟨i, h1, h2, h3, h4⟩
theorem oneTS : (Try.prog.info? 62).map (·.size) = some 1 := by kernel_rfl
theorem oneTBB : (Try.prog.info? 31).map (·.size) = some 1 := by kernel_rfl
theorem bsU (x : Int) : Try.prog.builtSlice 5 1 [(0, .int .u8 x)] = some #[.int .u8 x] := by kernel_rfl
theorem bsB (a : Option Addr) (n c : Nat) : Try.prog.builtSlice 35 1 [(0, .slice a n c)] = some #[.slice a n c] := by kernel_rfl
theorem bsFs (a : Option Addr) (n c : Nat) : Try.prog.builtSlice 39 1 [(0, .slice a n c)] = some #[.slice a n c] := by kernel_rfl
theorem bsFl (x y z t : Int) (a : Option Addr) (n c : Nat) : Try.prog.builtSlice 43 1 [(0, .agg #[.int .i64 x, .int .i64 y, .int .i64 z, .int .i64 t, .slice a n c])] = some #[.int .i64 x, .int .i64 y, .int .i64 z, .int .i64 t, .slice a n c] := by kernel_rfl
theorem bFl2 (x y : Int) : Try.prog.built 43 [(0, .int .i64 x), (1, .int .i64 y)] = some #[.int .i64 x, .int .i64 y, .int .i64 0, .int .i64 0, .slice none 0 0] := by kernel_rfl
theorem sign_any (n k : Nat) (hn : n ≤ 1000000) (hk : k ≤ 1000000) : Calls Try.prog 44 #[.int .i64 (n : Int), .int .i64 (k : Int)] w fun e w' => e = .returned (.int .u8 (sgv n k)) ∧ w = w' := by
  have i0 : (0 : Int) ≤ (n : Int) := Int.natCast_nonneg _
  have i1 : (n : Int) ≤ 1000000 := by omega
  have i2 : (0 : Int) ≤ (k : Int) := Int.natCast_nonneg _
  have i3 : (k : Int) ≤ 1000000 := by omega
  have h3 : k % 3 = 0 ∨ k % 3 = 1 ∨ k % 3 = 2 := by omega
  unfold sgv
  rcases h3 with h | h | h
  · have e : (k : Int) % 3 = 0 := by omega
    rw [if_pos h]
    go_enter Try.func44, Try.ntmps44
    go_wp2
    go_ret
    exact ⟨rfl, rfl⟩
  · have e : (k : Int) % 3 = 1 := by omega
    rw [if_neg (by omega), if_pos h]
    go_enter Try.func44, Try.ntmps44
    go_wp2
    go_ret
    exact ⟨rfl, rfl⟩
  · have e : (k : Int) % 3 = 2 := by omega
    rw [if_neg (by omega), if_neg (by omega)]
    go_enter Try.func44, Try.ntmps44
    go_wp2
    go_ret
    exact ⟨rfl, rfl⟩
theorem run_appK {P : Program} (base : Nat) (t ty e : TypeId) (i : TypeInfo) (z : Value) (size bytes : Nat) (ht : P.underlying t = some (.slice e)) (hi : P.info? e = some i) (hz : i.zero = some z)
    (hsize : i.size = size) (hby : i.bytes = bytes) (hzs : z.cells.size = size) (hsz : 0 < size)
    (v : Value) (n : Nat) (xs : List Value) (hown : w.ownsRow base e size v n xs)
    (a : Addr) (c : Nat) (news : List Value) (hl : news.length = 1 * size) (hnews : ∀ j u, news[j]? = some u → w.cell? (a.add j) = some u) (h1 : ∀ u ∈ news, u.oneCell' = true)
    (h63 : n + 1 ≤ maxLen) (hbytes : (n + 1) * bytes ≤ 140737488355328) (hbase : base ≤ w.heap.size) :
    ∃ v' w', (Builtin.append_ #[t, t] ty #[v, .slice (some a) 1 c]).run P w = .ok v' w' ∧ w'.ownsRow base e size v' (n + 1) (xs ++ news) ∧ w.grownBy w' v.ownBlock ∧ ApAt v v' n w.heap.size ∧ w'.ownsRow base e size v n xs := by
  obtain ⟨v', w', hr, h2, h3, h4, h5⟩ := run_append_own_at (P := P) w base t ty e i z size bytes ht hi hz hsize hby hzs hsz v n xs hown a 1 c news hl hnews h1 h63 hbytes hbase
  refine ⟨v', w', hr, h2, h3, ?_⟩
  have hx : xs.length = n * size := hown.1
  have hown2 := hown
  rcases hown.2 with ⟨rfl, rfl⟩ | ⟨g, cap, cur, rfl, hbg, hg, hnc, hcm, hcs, htake⟩
  · refine ⟨⟨.inr ?_⟩, hown.1, .inl ⟨rfl, rfl⟩⟩
    rcases h5 with h5 | h5
    · rcases h2.2 with ⟨_, h6⟩ | ⟨g, cap, cur, rfl, _⟩
      · omega
      · cases h5
    · exact h5
  · by_cases hroom : n + 1 ≤ cap
    · obtain ⟨w2, hr2, h6, h7⟩ := run_append_fits (P := P) w base t ty e i size ht hi hsize g n cap xs hown2 a 1 c news hl hnews h1 hroom
      rw [hr] at hr2
      simp only [Result.ok.injEq] at hr2
      obtain ⟨rfl, rfl⟩ := hr2
      exact ⟨⟨.inl ⟨g, cap, rfl, rfl⟩⟩, row_cut h6 hx⟩
    · have hr2 := run_append_grow (P := P) w t ty e i z ht hi hz ⟨g, 0, none⟩ n cap xs (by rw [hsize]; exact hown.1) (hown.cells (g := g) rfl) a 1 c news (by rw [hsize]; exact hl) hnews (by omega) (by simp only [maxLen] at h63; omega) (by rw [hby]; exact growslice_fits (by omega) hbytes)
      rw [hr] at hr2
      simp only [Result.ok.injEq] at hr2
      obtain ⟨rfl, rfl⟩ := hr2
      refine ⟨⟨.inr rfl⟩, hown.1, .inr ⟨g, cap, cur, rfl, hbg, ?_, hnc, hcm, hcs, htake⟩⟩
      have hlt : g < w.drew.heap.size := (Array.getElem?_eq_some_iff.1 hg).1
      exact (heap_alloc_old w.drew _ hlt).trans hg
theorem wl_appK {ops : Array Oper} {rest : List Oper} {o : Oper} {a : Act} {Q : Exit → Act → World → Prop} (hgd : o.guard = none) (s x : Operand) (t : TypeId)
    (ho : o.op = .call { callee := .builtin .append, args := #[s, x], argTypes := #[t, t] })
    (base : Nat) (e : TypeId) (i : TypeInfo) (z : Value) (size bytes : Nat) (ht : Try.prog.underlying t = some (.slice e)) (hi : Try.prog.info? e = some i) (hz : i.zero = some z)
    (hsize : i.size = size) (hby : i.bytes = bytes) (hzs : z.cells.size = size) (hsz : 0 < size)
    (v : Value) (n : Nat) (xs : List Value) (hs : a.eval s = v) (hown : w.ownsRow base e size v n xs) {nb : Nat}
    (news : List Value) (hx : a.eval x = .slice (some ⟨nb, 0, none⟩) 1 1) (hl : news.length = 1 * size) (hnb : w.heap[nb]? = some (.cells news.toArray e (0, 0))) (h1 : ∀ u ∈ news, u.oneCell' = true)
    (h63 : n + 1 ≤ maxLen) (hbytes : (n + 1) * bytes ≤ 140737488355328) (hbase : base ≤ w.heap.size)
    (h : ∀ a' c' w', w'.ownsRow base e size (.slice a' (n + 1) c') (n + 1) (xs ++ news) → Kept w w' (fun k => v.ownBlock = some k) → ApAt v (.slice a' (n + 1) c') n w.heap.size → w'.ownsRow base e size v n xs → wpList Try.prog ops Q rest (a.put o.dst (.slice a' (n + 1) c')) w') :
    wpList Try.prog ops Q (o :: rest) a w := by
  refine wpList_plain hgd fun K hK => ?_
  obtain ⟨v', w', hr, h2, h3, h4, h5⟩ := run_appK (P := Try.prog) base t o.type e i z size bytes ht hi hz hsize hby hzs hsz v n xs hown ⟨nb, 0, none⟩ 1 news hl (fun j u hu => by
    rw [Addr.add_lit, Nat.zero_add, blk_cell hnb]
    simpa using hu) h1 h63 hbytes hbase
  obtain ⟨a', c', rfl⟩ := own_sh h2
  unfold Oper.wp execOp
  simp only [ho, resolve, invoke, builtin, Sem.run_bind, Sem.run_pure, Result.andThen_ok, List.map_toArray, List.map_cons, List.map_nil, hs, hx, hr]
  exact hK _ _ (h a' c' w' h2 ((Kept.ofGrown h3).mono fun k _ hk => hk.symm) h4 h5)
theorem oneV (x : Value) (h : x.oneCell' = true) : ∀ u ∈ ([x] : List Value), u.oneCell' = true := by
  intro u hu
  simp only [List.mem_cons, List.not_mem_nil, or_false] at hu
  rw [hu]
  exact h
theorem step_appH {ops : Array Oper} {o : Oper} {a : Act} {K : Act → World → Prop} {Q : Exit → Act → World → Prop} {E : Prop} (hgd : o.guard = none) (s x : Operand) (t : TypeId)
    (ho : o.op = .call { callee := .builtin .append, args := #[s, x], argTypes := #[t, t] })
    (base : Nat) (e : TypeId) (i : TypeInfo) (z : Value) (size bytes : Nat) (ht : Try.prog.underlying t = some (.slice e)) (hi : Try.prog.info? e = some i) (hz : i.zero = some z)
    (hsize : i.size = size) (hby : i.bytes = bytes) (hzs : z.cells.size = size) (hsz : 0 < size)
    (v : Value) (n : Nat) (xs : List Value) (hs : a.eval s = v) (hown : w.ownsRow base e size v n xs) {nb : Nat} (news : List Value) (hx : a.eval x = .slice (some ⟨nb, 0, none⟩) 1 1) (hl : news.length = size) (hnb : w.heap[nb]? = some (.cells news.toArray e (0, 0))) (h1 : ∀ u ∈ news, u.oneCell' = true)
    (h63 : n + 1 ≤ maxLen) (hbytes : (n + 1) * bytes ≤ 140737488355328) (hbase : base ≤ w.heap.size)
    (h : ∀ a' c' w', w'.ownsRow base e size (.slice a' (n + 1) c') (n + 1) (xs ++ news) → Kept w w' (fun k => v.ownBlock = some k) → ((Value.slice a' (n + 1) c').ownBlock = v.ownBlock ∨ (Value.slice a' (n + 1) c').ownBlock = some w.heap.size) → K (a.put o.dst (.slice a' (n + 1) c')) w') : if Region.wanted o (yielded ops a.tmps) = true then Oper.wp Try.prog o a w K Q else E := by
  have hwt : Region.wanted o (yielded ops a.tmps) = true := by simp [Region.wanted, hgd]
  rw [if_pos hwt]
  obtain ⟨v', w', hr, h2, h3, h4, h5⟩ := run_append_own_at (P := Try.prog) w base t o.type e i z size bytes ht hi hz hsize hby hzs hsz v n xs hown ⟨nb, 0, none⟩ 1 1 news (by rw [hl]; omega) (fun j u hu => by
    rw [Addr.add_lit, Nat.zero_add, blk_cell hnb]
    simpa using hu) h1 h63 hbytes hbase
  obtain ⟨a', c', rfl⟩ := own_sh h2
  unfold Oper.wp execOp
  simp only [ho, resolve, invoke, builtin, Sem.run_bind, Sem.run_pure, Result.andThen_ok, List.map_toArray, List.map_cons, List.map_nil, hs, hx, hr]
  exact h a' c' w' h2 ((Kept.ofGrown h3).mono fun k _ hk => hk.symm) h5
end
end Go.Proofs.Ytnhhjelplmdloaa.Et
namespace Go.Proofs.Ytnhhjelplmdloaa.Et
open Go.RowKit Go.Maps
set_option linter.unusedVariables false
set_option linter.unusedSimpArgs false
set_option maxRecDepth 100000
theorem takeD {P : Program} {md : Region.Mode} {ops : Array Oper} {Q : Exit → Act → World → Prop} {S : World → Prop} {i d : Nat} {oi : Oper} {v : Value} {fuel : Nat} {listed : Array Bool} {a : Act} {w : World} (hi : ops[i]? = some oi) (hd : oi.dst = some d)
    (hs : Region.noSelect ops = true) (hf : Region.free md ops listed i = true) (hr : (Region.ready md ops listed).contains i = true)
    (hQ : ∀ c a w, Q (.panic c) (a.put oi.dst v) w → Q (.panic c) a w) (hy : YieldsIf P ops S oi v a) (hS : S w)
    (h : wpAnyH P md ops Q S fuel (listed.setIfInBounds i true) (a.put (some d) v) w) : wpAnyH P md ops Q S (fuel + 1) listed a w :=
  wpAnyH_take hi hs hf hr hQ hy hS (by rw [hd]; exact h)
section
variable {w w' w0 w1 w2 w3 : World} {B T s : Nat} {S S' : St} {sb : Nat} {fb fo : Nat → Nat → Value} {P Q : Nat → Prop}
theorem drew_bel (w : World) : Below w.heap.size w w.drew := (Below.refl _ _).drew
def St.bo (S : St) (b o : Sl) : St := { S with b := b, o := o }
def St.mm (S : St) (m : Sl) (vm : Nat → Sl) : St := { S with m := m, vm := vm }
def St.ll (S : St) (l : Sl) (vl : Nat → Sl) : St := { S with l := l, vl := vl }
theorem row_get {t i : Nat} {y : Sl} {f : Nat → Value} (h : w.ownsRow B t 1 y.v y.n (rv y.n f)) (hi : i < y.n) : ∃ g, y.a = some ⟨g, 0, none⟩ ∧ w.cell? ⟨g, i, none⟩ = some (f i) := by
  rcases h.2 with ⟨h1, h2⟩ | ⟨g, cap, cur, hv, _⟩
  · omega
  · have e : y.a = some ⟨g, 0, none⟩ ∧ y.c = cap := by
      unfold Sl.v at hv
      simp only [Value.slice.injEq] at hv
      exact ⟨hv.1, hv.2.2⟩
    refine ⟨g, e.1, ?_⟩
    have h2 := h
    rw [Sl.at e.1] at h2
    rw [World.ownsRow.cellAt h2 i (by omega), rv_get f hi]
theorem row_getF {t i s : Nat} {y : Sl} {f : Nat → Value} (h : w.ownsRow B t s y.v y.n (rv (y.n * s) f)) (hi : i < y.n) (hs : 0 < s) : ∃ g, y.a = some ⟨g, 0, none⟩ ∧ (∃ C, w.heap[g]? = some (.cells C t (0, 0)) ∧ (i + 1) * s ≤ C.size) ∧ ∀ q, q < s → w.cell? ⟨g, i * s + q, none⟩ = some (f (i * s + q)) := by
  rcases h.2 with ⟨h1, h2⟩ | ⟨g, cap, cur, hv, hB, hg, hnc, hcm, hcs, htk⟩
  · omega
  · have e : y.a = some ⟨g, 0, none⟩ ∧ y.c = cap := by
      unfold Sl.v at hv
      simp only [Value.slice.injEq] at hv
      exact ⟨hv.1, hv.2.2⟩
    have hm : (i + 1) * s ≤ y.n * s := Nat.mul_le_mul_right s hi
    refine ⟨g, e.1, ⟨cur, hg, Nat.le_trans hm (by rw [hcs]; exact Nat.mul_le_mul_right s hnc)⟩, fun q hq => ?_⟩
    have h2 := h
    rw [Sl.at e.1] at h2
    rw [Nat.add_mul, Nat.one_mul] at hm
    rw [World.ownsRow.cellAt h2 (i * s + q) (by omega), rv_get f (by omega)]
theorem Ps.off (h : Ps B sb w0 P w S fb fo) {g : Nat} (hg : g < w0.heap.size ∧ ¬ P g) : ¬ S.own sb g := fun e => (h.p g e).elim hg.2 (fun hh => by omega)
theorem Ps.cB (h : Ps B sb w0 P w S fb fo) : w.cell? ⟨sb, 0, none⟩ = some (.slice S.b.a S.b.n S.b.c) := blk_cell h.ok.blk 0
theorem Ps.cM (h : Ps B sb w0 P w S fb fo) : w.cell? ⟨sb, 1, none⟩ = some (.slice S.m.a S.m.n S.m.c) := blk_cell h.ok.blk 1
theorem Ps.cO (h : Ps B sb w0 P w S fb fo) : w.cell? ⟨sb, 2, none⟩ = some (.slice S.o.a S.o.n S.o.c) := blk_cell h.ok.blk 2
theorem Ps.cL (h : Ps B sb w0 P w S fb fo) : w.cell? ⟨sb, 3, none⟩ = some (.slice S.l.a S.l.n S.l.c) := blk_cell h.ok.blk 3
theorem Ps.hB (h : Ps B sb w0 P w S fb fo) (hB : B ≤ w0.heap.size) : B ≤ w.heap.size := Nat.le_trans hB h.k.size
structure Lk3 (S : St) (N0 M0 : Nat) (fb fo : Nat → Nat → Value) (off : Nat → Nat) : Prop where
  nb : S.b.n = N0
  nm : S.m.n = N0
  no : S.o.n = M0
  nl : S.l.n = M0
  M : S.M = M0 + 3
  N : S.N = N0 + off 3
  o0 : off 0 = 0
  os : ∀ i, i < 3 → off (i + 1) = off i + (S.vo (M0 + i)).n
  lk : ∀ i, i < 3 → ∀ k, k < (S.vo (M0 + i)).n → fo (M0 + i) (k * 5 + 4) = (S.vb (N0 + (off i + k))).v
  bN : S.N ≤ 100000
  bM : S.M ≤ 1000
  lb : ∀ i, i < S.N → (S.vb i).n ≤ 40000
  lo : ∀ i, i < S.M → (S.vo i).n ≤ 1000
  gb : ∀ i, i < N0 → ∀ j, j < (S.vb i).n * 1 → fb i j = Gb i j
  go : ∀ i, i < M0 → ∀ j, j < (S.vo i).n * 5 → fo i j = Gf i j
theorem Lk3.le {N0 M0 : Nat} {off : Nat → Nat} (l : Lk3 S N0 M0 fb fo off) {i k : Nat} (hi : i < 3) (hk : k < (S.vo (M0 + i)).n) : off i + k < off 3 := by
  have h0 : off 1 = off 0 + (S.vo (M0 + 0)).n := l.os 0 (by omega)
  have h1 : off 2 = off 1 + (S.vo (M0 + 1)).n := l.os 1 (by omega)
  have h2 : off 3 = off 2 + (S.vo (M0 + 2)).n := l.os 2 (by omega)
  have : i = 0 ∨ i = 1 ∨ i = 2 := by omega
  rcases this with rfl | rfl | rfl
  · omega
  · omega
  · omega
structure PutO (B sb : Nat) (w : World) (P : Nat → Prop) (w' : World) (S : St) : Prop where
  out : ∃ S', Ps B sb w P w' S' Gb Gf ∧ S'.N = S.N ∧ S'.M = S.M ∧ S'.vb = S.vb ∧ S'.vo = S.vo ∧ S'.b.n = S.N ∧ S'.m.n = S.N ∧ S'.o.n = S.M ∧ S'.l.n = S.M
def dnn (n : Nat → Nat) (N s q k : Nat) (f G : Nat → Nat → Value) : Prop := ∀ i, i < N → ∀ j, j < n i * s → (i < q ∨ (i = q ∧ j < k * s)) → f i j = G i j
end
end Go.Proofs.Ytnhhjelplmdloaa.Et
