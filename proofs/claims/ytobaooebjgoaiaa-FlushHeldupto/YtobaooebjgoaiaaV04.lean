import Derived.Test.YtobaooebjgoaiaaV03
import Derived.Test.YtobaooebjgoaiaaV02
namespace Go.Proofs.Ytobaooebjgoaiaa.Hh
open Go.RowKit Go.Maps Mb
set_option linter.unusedVariables false
set_option linter.unusedSimpArgs false
set_option maxRecDepth 100000
section
theorem info4 {t : TypeId} {z : Value} {n b : Nat} (h : (Try.prog.info? t).map (fun i => (i.zero, i.size, i.bytes)) = some (some z, n, b)) : ∃ i : TypeInfo, Try.prog.info? t = some i ∧ i.zero = some z ∧ i.size = n ∧ i.bytes = b := by
 cases hi : Try.prog.info? t with
 | none => rw [hi] at h; cases h
 | some i =>
  rw [hi] at h
  simp at h
  exact ⟨i, rfl, h.1, h.2.1, h.2.2⟩
theorem infoZ {t : TypeId} {n b : Nat} (h : (Try.prog.info? t).map (fun i => (i.zero.map fun z => z.cells.size, i.size, i.bytes)) = some (some n, n, b)) : ∃ (i : TypeInfo) (z : Value), Try.prog.info? t = some i ∧ i.zero = some z ∧ i.size = n ∧ i.bytes = b ∧ z.cells.size = n := by
 cases hi : Try.prog.info? t with
 | none => rw [hi] at h; cases h
 | some i =>
  rw [hi] at h
  simp only [Option.map_some, Option.some.injEq, Prod.mk.injEq] at h
  obtain ⟨h1, h2, h3⟩ := h
  cases hz : i.zero with
  | none => rw [hz] at h1; cases h1
  | some z =>
   rw [hz] at h1
   simp only [Option.map_some, Option.some.injEq] at h1
   exact ⟨i, z, rfl, hz, h2, h3, h1⟩
theorem tE0 : ∃ (i : TypeInfo) (z : Value), Try.prog.info? 5 = some i ∧ i.zero = some z ∧ i.size = 1 ∧ i.bytes = 1 ∧ z.cells.size = 1 := infoZ (by kernel_rfl)
theorem tL0 : ∃ i : TypeInfo, Try.prog.info? 92 = some i ∧ i.zero = some (.slice none 0 0) ∧ i.size = 1 ∧ i.bytes = 24 := info4 (by kernel_rfl)
theorem oL0 : (Try.prog.info? 33).map (·.size) = some 1 := by kernel_rfl
theorem bsL0 (a : Option Addr) (n c : Nat) : Try.prog.builtSlice 92 1 [(0, .slice a n c)] = some #[.slice a n c] := by kernel_rfl
theorem bs0 (x : Int) : Try.prog.builtSlice 5 1 [(0, .int .u8 x)] = some #[.int .u8 x] := by kernel_rfl
theorem tE1 : ∃ (i : TypeInfo) (z : Value), Try.prog.info? 3 = some i ∧ i.zero = some z ∧ i.size = 1 ∧ i.bytes = 8 ∧ z.cells.size = 1 := infoZ (by kernel_rfl)
theorem tL1 : ∃ i : TypeInfo, Try.prog.info? 26 = some i ∧ i.zero = some (.slice none 0 0) ∧ i.size = 1 ∧ i.bytes = 24 := info4 (by kernel_rfl)
theorem oL1 : (Try.prog.info? 34).map (·.size) = some 1 := by kernel_rfl
theorem bsL1 (a : Option Addr) (n c : Nat) : Try.prog.builtSlice 26 1 [(0, .slice a n c)] = some #[.slice a n c] := by kernel_rfl
theorem bs1 (x : Int) : Try.prog.builtSlice 3 1 [(0, .int .i64 x)] = some #[.int .i64 x] := by kernel_rfl
theorem tE2 : ∃ (i : TypeInfo) (z : Value), Try.prog.info? 76 = some i ∧ i.zero = some z ∧ i.size = 2 ∧ i.bytes = 16 ∧ z.cells.size = 2 := infoZ (by kernel_rfl)
theorem tL2 : ∃ i : TypeInfo, Try.prog.info? 25 = some i ∧ i.zero = some (.slice none 0 0) ∧ i.size = 1 ∧ i.bytes = 24 := info4 (by kernel_rfl)
theorem oL2 : (Try.prog.info? 35).map (·.size) = some 1 := by kernel_rfl
theorem bsL2 (a : Option Addr) (n c : Nat) : Try.prog.builtSlice 25 1 [(0, .slice a n c)] = some #[.slice a n c] := by kernel_rfl
theorem bs2 (x : Int) : Try.prog.builtSlice 76 1 [(0, .agg #[.int .i64 0, .int .i64 x])] = some #[.int .i64 0, .int .i64 x] := by kernel_rfl
theorem tE3 : ∃ (i : TypeInfo) (z : Value), Try.prog.info? 28 = some i ∧ i.zero = some z ∧ i.size = 7 ∧ i.bytes = 88 ∧ z.cells.size = 7 := infoZ (by kernel_rfl)
theorem tL3 : ∃ i : TypeInfo, Try.prog.info? 22 = some i ∧ i.zero = some (.slice none 0 0) ∧ i.size = 1 ∧ i.bytes = 24 := info4 (by kernel_rfl)
theorem oL3 : (Try.prog.info? 36).map (·.size) = some 1 := by kernel_rfl
theorem bsL3 (a : Option Addr) (n c : Nat) : Try.prog.builtSlice 22 1 [(0, .slice a n c)] = some #[.slice a n c] := by kernel_rfl
theorem bs3 (x : Int) : Try.prog.builtSlice 28 1 [(0, .agg #[.int .i64 0, .int .i64 0, .int .i64 0, .int .i64 0, .int .i64 x, .slice none 0 0, .slice none 0 0])] = some #[.int .i64 0, .int .i64 0, .int .i64 0, .int .i64 0, .int .i64 x, .slice none 0 0, .slice none 0 0] := by kernel_rfl
theorem tE4 : ∃ (i : TypeInfo) (z : Value), Try.prog.info? 95 = some i ∧ i.zero = some z ∧ i.size = 4 ∧ i.bytes = 48 ∧ z.cells.size = 4 := infoZ (by kernel_rfl)
theorem tL4 : ∃ i : TypeInfo, Try.prog.info? 29 = some i ∧ i.zero = some (.slice none 0 0) ∧ i.size = 1 ∧ i.bytes = 24 := info4 (by kernel_rfl)
theorem oL4 : (Try.prog.info? 37).map (·.size) = some 1 := by kernel_rfl
theorem bsL4 (a : Option Addr) (n c : Nat) : Try.prog.builtSlice 29 1 [(0, .slice a n c)] = some #[.slice a n c] := by kernel_rfl
theorem bs4 (x : Int) : Try.prog.builtSlice 95 1 [(0, .agg #[.int .i64 0, .int .i64 x, .int .i64 0, .slice none 0 0])] = some #[.int .i64 0, .int .i64 x, .int .i64 0, .slice none 0 0] := by kernel_rfl
theorem tE5 : ∃ (i : TypeInfo) (z : Value), Try.prog.info? 97 = some i ∧ i.zero = some z ∧ i.size = 4 ∧ i.bytes = 48 ∧ z.cells.size = 4 := infoZ (by kernel_rfl)
theorem tL5 : ∃ i : TypeInfo, Try.prog.info? 60 = some i ∧ i.zero = some (.slice none 0 0) ∧ i.size = 1 ∧ i.bytes = 24 := info4 (by kernel_rfl)
theorem oL5 : (Try.prog.info? 38).map (·.size) = some 1 := by kernel_rfl
theorem bsL5 (a : Option Addr) (n c : Nat) : Try.prog.builtSlice 60 1 [(0, .slice a n c)] = some #[.slice a n c] := by kernel_rfl
theorem bs5 (x : Int) : Try.prog.builtSlice 97 1 [(0, .agg #[.int .i64 0, .int .i64 0, .int .i64 x, .slice none 0 0])] = some #[.int .i64 0, .int .i64 0, .int .i64 x, .slice none 0 0] := by kernel_rfl
variable {w w' w1 w2 w3 Z Y V : World} {B T s : Nat} {S S' : St} {hb : Nat} {f f' : Nat → Nat → Nat → Value} {P : Nat → Prop} {c k n : Nat} {x : Sl} {a' : Option Addr} {c' : Nat} {Q : Nat → Sl} {U : Nat → Nat → Sl}
theorem run_appK {P : Program} (base : Nat) (t ty e : TypeId) (i : TypeInfo) (z : Value) (size bytes : Nat) (ht : P.underlying t = some (.slice e)) (hi : P.info? e = some i) (hz : i.zero = some z)
  (hsize : i.size = size) (hby : i.bytes = bytes) (hzs : z.cells.size = size) (hsz : 0 < size)
  (v : Value) (n : Nat) (xs : List Value) (hown : w.ownsRow base e size v n xs)
  (a : Addr) (c : Nat) (news : List Value) (hl : news.length = 1 * size) (hnews : ∀ j u, news[j]? = some u → w.cell? (a.add j) = some u) (h1 : ∀ u ∈ news, u.oneCell' = true)
  (h63 : n + 1 ≤ maxLen) (hbytes : (n + 1) * bytes ≤ 140737488355328) (hbase : base ≤ w.heap.size) :
  ∃ v' w', (Builtin.append_ #[t, t] ty #[v, .slice (some a) 1 c]).run P w = .ok v' w' ∧ w'.ownsRow base e size v' (n + 1) (xs ++ news) ∧ w.grownBy w' v.ownBlock ∧ ApAt v v' n w.heap.size ∧ w'.ownsRow base e size v n xs := by
 obtain ⟨v', w', hr, h2, h3, h4, h5⟩ := run_append_own_at (P := P) w base t ty e i z size bytes ht hi hz hsize hby hzs hsz v n xs hown a 1 c news hl hnews h1 h63 hbytes hbase
 refine ⟨v', w', hr, h2, h3, ?_⟩
 have hx : xs.length = n * size := hown.1
 have hown2 := hown
 rcases hown.2 with ⟨rfl, rfl⟩ | ⟨g, cap, cur, rfl, hbg, hg, hnc, hcm, hcs, htake⟩
 ·refine ⟨⟨.inr ?_⟩, hown.1, .inl ⟨rfl, rfl⟩⟩
  rcases h5 with h5 | h5
  ·rcases h2.2 with ⟨_, h6⟩ | ⟨g, cap, cur, rfl, _⟩
   ·omega
   ·cases h5
  ·exact h5
 ·by_cases hroom : n + 1 ≤ cap
  ·obtain ⟨w2, hr2, h6, h7⟩ := run_append_fits (P := P) w base t ty e i size ht hi hsize g n cap xs hown2 a 1 c news hl hnews h1 hroom
   rw [hr] at hr2
   simp only [Result.ok.injEq] at hr2
   obtain ⟨rfl, rfl⟩ := hr2
   exact ⟨⟨.inl ⟨g, cap, rfl, rfl⟩⟩, row_cut h6 hx⟩
  ·have hr2 := run_append_grow (P := P) w t ty e i z ht hi hz ⟨g, 0, none⟩ n cap xs (by rw [hsize]; exact hown.1) (hown.cells (g := g) rfl) a 1 c news (by rw [hsize]; exact hl) hnews (by omega) (by simp only [maxLen] at h63; omega) (by rw [hby]; exact growslice_fits (by omega) hbytes)
   rw [hr] at hr2
   simp only [Result.ok.injEq] at hr2
   obtain ⟨rfl, rfl⟩ := hr2
   refine ⟨⟨.inr rfl⟩, hown.1, .inr ⟨g, cap, cur, rfl, hbg, ?_, hnc, hcm, hcs, htake⟩⟩
   have hlt : g < w.drew.heap.size := (Array.getElem?_eq_some_iff.1 hg).1
   exact (heap_alloc_old w.drew _ hlt).trans hg
theorem wl_appK {ops : Array Oper} {rest : List Oper} {o : Oper} {a : Act} {Q : Exit → Act → World → Prop} (hgd : o.guard = none) (s x : Operand) (t : TypeId)
  (ho : o.op = .call { callee := .builtin .append, args := #[s, x], argTypes := #[t, t] })
  (base : Nat) (e : TypeId) (i : TypeInfo) (z : Value) (size bytes : Nat) (ht : Try.prog.underlying t = some (.slice e)) (hi : Try.prog.info? e = some i) (hz : i.zero = some z)
  (hsize : i.size = size) (hby : i.bytes = bytes) (hzs : z.cells.size = size) (hsz : 0 < size)
  (v : Value) (n : Nat) (xs : List Value) (hs : a.eval s = v) (hown : w.ownsRow base e size v n xs) {nb : Nat}
  (news : List Value) (hx : a.eval x = .slice (some ⟨nb, 0, none⟩) 1 1) (hl : news.length = 1 * size) (hnb : w.heap[nb]? = some (.cells news.toArray e (0, 0))) (h1 : ∀ u ∈ news, u.oneCell' = true)
  (h63 : n + 1 ≤ maxLen) (hbytes : (n + 1) * bytes ≤ 140737488355328) (hbase : base ≤ w.heap.size)
  (h : ∀ a' c' w', w'.ownsRow base e size (.slice a' (n + 1) c') (n + 1) (xs ++ news) → Kept w w' (fun k => v.ownBlock = some k) → ApAt v (.slice a' (n + 1) c') n w.heap.size → w'.ownsRow base e size v n xs → wpList Try.prog ops Q rest (a.put o.dst (.slice a' (n + 1) c')) w') :
  wpList Try.prog ops Q (o :: rest) a w := by
 refine wpList_plain hgd fun K hK => ?_
 obtain ⟨v', w', hr, h2, h3, h4, h5⟩ := run_appK (P := Try.prog) base t o.type e i z size bytes ht hi hz hsize hby hzs hsz v n xs hown ⟨nb, 0, none⟩ 1 news hl (fun j u hu => by
  rw [Addr.add_lit, Nat.zero_add, blk_cell hnb]
  simpa using hu) h1 h63 hbytes hbase
 obtain ⟨a', c', rfl⟩ := own_sh h2
 unfold Oper.wp execOp
 simp only [ho, resolve, invoke, builtin, Sem.run_bind, Sem.run_pure, Result.andThen_ok, List.map_toArray, List.map_cons, List.map_nil, hs, hx, hr]
 exact hK _ _ (h a' c' w' h2 ((Kept.ofGrown h3).mono fun k _ hk => hk.symm) h4 h5)
theorem oneV (x : Value) (h : x.oneCell' = true) : ∀ u ∈ ([x] : List Value), u.oneCell' = true := by
 intro u hu
 simp only [List.mem_cons, List.not_mem_nil, or_false] at hu
 rw [hu]
 exact h
theorem PsG.cell (h : PsG B hb w P S c n Q U Z) {d : Nat} (hd : d < 6) : Z.cell? ⟨hb, 2 * d, none⟩ = some (.slice (S.r d).a (S.r d).n (S.r d).c) := by
 rw [blk_cell h.ok.blk]
 have e : d = 0 ∨ d = 1 ∨ d = 2 ∨ d = 3 ∨ d = 4 ∨ d = 5 := by omega
 rcases e with rfl | rfl | rfl | rfl | rfl | rfl <;> rfl
theorem PsG.cellQ (h : PsG B hb w P S c n Q U Z) {d : Nat} (hd : d < 6) : Z.cell? ⟨hb, 2 * d + 1, none⟩ = some (.slice (Q d).a (Q d).n (Q d).c) := by
 rw [blk_cell h.ok.blk]
 have e : d = 0 ∨ d = 1 ∨ d = 2 ∨ d = 3 ∨ d = 4 ∨ d = 5 := by omega
 rcases e with rfl | rfl | rfl | rfl | rfl | rfl <;> rfl
theorem PsG.at (h : PsG B hb w P S c n Q U Z) {d i : Nat} (hd : d < 6) (hi : i < (S.r d).n) : ∃ g, (S.r d).a = some ⟨g, 0, none⟩ ∧ Z.cell? ⟨g, i, none⟩ = some (S.v d i).v := row_get (h.ok.row d hd) hi
theorem PgG.own {x : Sl} (h : PgG B hb w P S c n Q U k x Z) (hc : c < 6) : Z.ownsRow B (Ty c) (Sz c) x.v x.n (rv (x.n * Sz c) (G c n)) := by
 have h1 := h.g.o
 rw [h.p.at_] at h1
 exact h1
theorem PgG.hB {x : Sl} (h : PgG B hb w P S c n Q U k x Z) (hB : B ≤ w.heap.size) (hv : Below Z.heap.size Z V) : B ≤ V.heap.size := Nat.le_trans hB (Nat.le_trans h.p.k.size hv.size)
theorem PgG.more {x : Sl} {ma : Option Addr} {mc : Nat} (h : PgG B hb w P S c n Q U k x Z) (hc : c < 6) (hQ : Q c = ⟨ma, n, mc⟩) : Z.ownsRow B (Ety c) 1 (.slice ma n mc) n (rv n fun i => (U c i).v) := by
 have h1 : Z.ownsRow B (Ety c) 1 (Q c).v (Q c).n (rv (Q c).n fun i => (U c i).v) := h.p.ok.mor c hc
 rw [hQ] at h1
 exact h1
theorem PgG.hbk {x : Sl} {ma : Option Addr} {mc : Nat} (h : PgG B hb w P S c n Q U k x V) (hc : c < 6) (hQ : Q c = ⟨ma, n, mc⟩) (hk : Kept V Y (fun j => (Value.slice ma n mc).ownBlock = some j)) : Y.heap[hb]? = some (.cells (S.qu Q U).cs 40 (0, 0)) :=
 hk.obj h.p.ok.blk (own_hb (h.more hc hQ) h.p.ok.blk (ty_h hc).2)
theorem PgG.done' {x : Sl} {c1 mc : Nat} {a1 ma : Option Addr} (h : PgG B hb w P S c n Q U 64 x V) (hc : c < 6) (hQ : Q c = ⟨ma, n, mc⟩)
  (ho : Y.ownsRow B (Ety c) 1 (.slice a1 (n + 1) c1) (n + 1) (rv n (fun i => (U c i).v) ++ [x.v])) (hk : Kept V Y (fun j => (Value.slice ma n mc).ownBlock = some j)) (he : (Value.slice a1 (n + 1) c1).ownBlock = (Value.slice ma n mc).ownBlock ∨ (Value.slice a1 (n + 1) c1).ownBlock = some V.heap.size) : ∃ Q' U', PsG B hb w P S c (n + 1) Q' U' (Y.setCell ⟨hb, 2 * c + 1, none⟩ (.slice a1 (n + 1) c1)) := by
 refine h.done hc ho ?_ ?_
 ·rw [hQ]; exact hk
 ·rw [hQ]; exact he
theorem PsG.all (h : PsG B hb w P S 5 (S.N 5) Q U Z) : (S.qu Q U).Ok Z B hb G ∧ Kept w Z P ∧ (∀ d, d < 6 → (Q d).n = S.N d) ∧ ∀ j, (S.qu Q U).own hb j → P j ∨ w.heap.size ≤ j := ⟨h.ok, h.k, fun d hd => by
 by_cases e : d = 5
 ·subst e; exact h.at_
 ·exact h.lo d (by omega), h.p⟩
set_option maxHeartbeats 16000000 in
theorem growm_any (h : PsG B hb w P S 4 0 Q U Z) (t : (∀ c, c < 6 → (S.r c).n = S.N c) ∧ (∀ c, c < 6 → S.N c ≤ 100000000) ∧ ∀ c, c < 6 → ∀ i, i < S.N c → (S.v c i).n ≤ 100000000) (hB : B ≤ w.heap.size) : Calls Try.prog 57 #[.pointer (some ⟨hb, 0, none⟩)] Z fun e w' => e = .returned (.tuple #[]) ∧ ∃ Q U, PsG B hb w P S 5 (S.N 5) Q U w' := by
 obtain ⟨e4, z4, e4h, e4z0, e4z1, e4z2, e4z3⟩ := tE4
 obtain ⟨l4, l4h, l4z0, l4z1, l4z2⟩ := tL4
 obtain ⟨e5, z5, e5h, e5z0, e5z1, e5z2, e5z3⟩ := tE5
 obtain ⟨l5, l5h, l5z0, l5z1, l5z2⟩ := tL5
 have HS4 : Hid (∃ Q U, PsG B hb w P S 4 0 Q U Z) := ⟨Q, U, h⟩
 have HN : Hid ((∀ c, c < 6 → (S.r c).n = S.N c) ∧ (∀ c, c < 6 → S.N c ≤ 100000000) ∧ ∀ c, c < 6 → ∀ i, i < S.N c → (S.v c i).n ≤ 100000000) := t
 have HBw : Hid (B ≤ w.heap.size) := hB
 obtain ⟨N4, hN4⟩ : ∃ N, S.N 4 = N := ⟨_, rfl⟩
 have HN4 : Hid (S.N 4 = N4) := hN4
 have n4 : N4 ≤ 100000000 := by rw [← hN4]; exact HN.out.2.1 4 (by omega)
 obtain ⟨N5, hN5⟩ : ∃ N, S.N 5 = N := ⟨_, rfl⟩
 have HN5 : Hid (S.N 5 = N5) := hN5
 have n5 : N5 ≤ 100000000 := by rw [← hN5]; exact HN.out.2.1 5 (by omega)
 have cd4 : Z.cell? ⟨hb, 8, none⟩ = some (.slice (S.r 4).a N4 (S.r 4).c) := by have h1 := h.cell (d := 4) (by omega); rwa [HN.out.1 4 (by omega), HN4.out] at h1
 clear h t hB hN4 hN5
 go_enter Try.func57, Try.ntmps57
 go_wp2_with fail
 clear cd4
 go_loopw [2] (fun i wr => ∃ (q : Nat) (Q : Nat → Sl) (U : Nat → Nat → Sl), q ≤ N4 ∧ i = .int .i64 (q : Int) ∧ PsG B hb w P S 4 q Q U wr) (fun i _ => N4 - (intOf i).toNat)
 case atStart =>
  obtain ⟨Q0, U0, h0⟩ := HS4.out
  exact ⟨0, Q0, U0, Nat.zero_le _, rfl, h0⟩
 case round =>
  as_aux_lemma =>
  obtain ⟨q, Q, U, hq, rfl, hf⟩ := hrel
  have HF : Hid (PsG B hb w P S 4 q Q U wr) := hf
  have cc : wr.cell? ⟨hb, 8, none⟩ = some (.slice (S.r 4).a N4 (S.r 4).c) := by have h1 := hf.cell (d := 4) (by omega); rwa [HN.out.1 4 (by omega), HN4.out] at h1
  obtain ⟨⟨ma, mn, mc⟩, hQ⟩ : ∃ x, Q 4 = x := ⟨_, rfl⟩
  obtain rfl : q = mn := by have h1 := hf.at_; rw [hQ] at h1; exact h1.symm
  have HQ0 : Hid (Q 4 = ⟨ma, q, mc⟩) := hQ
  clear hf HS4 hQ
  have i1 : (0 : Int) ≤ (q : Int) := Int.natCast_nonneg _
  by_cases hlt : q < N4
  ·have i2 : (q : Int) < (N4 : Int) := by omega
   obtain ⟨⟨xa, xn, xc⟩, hx⟩ : ∃ x, S.v 4 q = x := ⟨_, rfl⟩
   have hqn : q < S.N 4 := by rw [HN4.out]; exact hlt
   have hqr : q < (S.r 4).n := by rw [HN.out.1 4 (by omega)]; exact hqn
   have hxn : xn ≤ 100000000 := by have h1 := HN.out.2.2 4 (by omega) q hqn; rw [hx] at h1; exact h1
   have HqN : Hid (q < S.N 4) := hqn
   obtain ⟨bg, hba, hcq⟩ := HF.out.at (d := 4) (by omega) hqr
   have cq : wr.cell? ⟨bg, q, none⟩ = some (.slice xa xn xc) := by
    rw [hcq, hx]; rfl
   rw [hba] at cc
   obtain ⟨rc, hrc⟩ : ∃ rc, (S.r 4).c = rc := ⟨_, rfl⟩
   rw [hrc] at cc
   have HG : Hid (PgG B hb w P S 4 q Q U 0 ⟨xa, xn, xc⟩ wr) := by
    have h1 := PgG.start HF.out (by omega) hqn
    rw [hx] at h1
    exact h1
   clear hx hba hcq hqr hqn hrc HF
   go_wp2_with fail
   go_loopw [3, 4] (fun m k wr => ∃ (r : Nat) (x : Sl), r ≤ 64 ∧ m = .slice x.a x.n x.c ∧ k = .int .i64 (r : Int) ∧ x.n = xn + r ∧ PgG B hb w P S 4 q Q U r x wr) (fun _ k _ => 64 - (intOf k).toNat)
   case atStart => exact ⟨0, ⟨xa, xn, xc⟩, by omega, rfl, rfl, rfl, HG.out⟩
   case round =>
    as_aux_lemma =>
    obtain ⟨r, ⟨ya, yn, yc⟩, hr, rfl, rfl, hyn, hg⟩ := hrel
    have hyn2 : yn ≤ 100000064 := by have h1 : yn = xn + r := hyn; omega
    have HYn : Hid (yn = xn + r) := hyn
    have HG2 : Hid (PgG B hb w P S 4 q Q U r ⟨ya, yn, yc⟩ wr) := hg
    clear hyn hg HG cc cq
    have j1 : (0 : Int) ≤ (r : Int) := Int.natCast_nonneg _
    by_cases hlk : r < 64
    ·have j2 : (r : Int) < 64 := by omega
     go_wp2_with (first
      | (refine wl_buildZ rfl 95 _ rfl (built_eq (by kernel_rfl) (bF4 (-1000 - (q : Int)))) ?_)
      | (refine wl_bsl rfl 29 95 1 _ rfl Try.underlying29 #[.int .i64 0, .int .i64 (-1000 - (q : Int)), .int .i64 0, .slice none 0 0] (bsl_eq (by kernel_rfl) (bs4 (-1000 - (q : Int)))) ?_; intro V kv bv sv)
      | (refine wl_appK rfl _ _ 29 rfl B 95 e4 z4 4 48 Try.underlying29 e4h e4z0 e4z1 e4z2 e4z3 (by omega) (.slice ya yn yc) yn (rv (yn * 4) (G 4 q)) rfl (own_still (HG2.out.own (by omega)) bv) (nb := wr.heap.size) (mrk 4 q) rfl rfl kv (mrk_one 4 q) (by unfold maxLen; omega) (by omega) (HG2.out.hB HBw.out bv) ?_; intro a1 c1 Y ho hk he hold; have HQ : Hid (PgG B hb w P S 4 q Q U (r + 1) ⟨a1, yn + 1, c1⟩ Y) := (HG2.out.still bv).grow (by omega) HqN.out ho hk he hold; clear ho hk he hold kv bv sv)
      | fail)
     exact ⟨⟨r + 1, ⟨a1, yn + 1, c1⟩, by omega, rfl, by go_num, by show yn + 1 = _; have := HYn.out; omega, HQ.out⟩, by simp [intOf]; omega⟩
    ·obtain rfl : r = 64 := by omega
     have c1 : wr.cell? ⟨hb, 9, none⟩ = some (.slice ma q mc) := by have h1 := HG2.out.p.cellQ (d := 4) (by omega); rwa [HQ0.out] at h1
     go_wp2_with (first
      | (refine wl_bsl rfl 37 29 1 _ rfl Try.underlying37 #[.slice ya yn yc] (bsl_eq (by kernel_rfl) (bsL4 ya yn yc)) ?_; intro V kv bv sv; have hpV := HG2.out.still bv)
      | (refine app_g rfl _ _ 37 rfl B 29 l4 (.slice none 0 0) 1 24 Try.underlying37 l4h l4z0 l4z1 l4z2 rfl (by omega) (.slice ma q mc) q _ rfl (hpV.more (by omega) HQ0.out) (some ⟨wr.heap.size, 0, none⟩) 1 1 [.slice ya yn yc] rfl (fun h => by cases h) rfl (fun ad had j u hu => by cases had; rw [Addr.add_lit, Nat.zero_add, blk_cell kv]; simpa using hu) (oneV _ rfl) (by unfold maxLen; omega) (by omega) (HG2.out.hB HBw.out bv) ?_; intro v1 Y ho hk he; obtain ⟨a1, c1', rfl⟩ := own_sh ho.out; have hbk := hpV.hbk (by omega) HQ0.out hk.out)
      | (refine wl_stS rfl 37 _ _ rfl (g := hb) (p := 9) rfl rfl hbk (show 9 < 16 from by omega) oL4 rfl ?_; have HQ : Hid (∃ Q' U', PsG B hb w P S 4 (q + 1) Q' U' (Y.setCell ⟨hb, 9, none⟩ (.slice a1 (q + 1) c1'))) := hpV.done' (by omega) HQ0.out ho.out hk.out he.out; clear ho hk he hbk hpV kv bv sv; generalize Y.setCell ⟨hb, 9, none⟩ (.slice a1 (q + 1) c1') = Z at *)
      | fail)
     obtain ⟨Q', U', hQ'⟩ := HQ.out
     exact ⟨⟨q + 1, Q', U', by omega, by go_num, hQ'⟩, by simp [intOf]; omega⟩
  ·have hqe : q = N4 := by omega
   have HS5 : Hid (∃ Q U, PsG B hb w P S (4 + 1) 0 Q U wr) := by
    have h1 := HF.out
    rw [show q = S.N 4 by rw [HN4.out]; exact hqe] at h1
    exact ⟨Q, U, h1.next (by omega)⟩
   have i9 : ¬ (q : Int) < (N4 : Int) := by omega
   clear HF HQ0 hlt hq hqe
   obtain ⟨W_4, hW⟩ : ∃ W0, W0 = wr := ⟨_, rfl⟩
   subst hW
   have cd5 : W_4.cell? ⟨hb, 10, none⟩ = some (.slice (S.r 5).a N5 (S.r 5).c) := by obtain ⟨Q0, U0, h0⟩ := HS5.out; have h1 := h0.cell (d := 5) (by omega); rwa [HN.out.1 5 (by omega), HN5.out] at h1
   go_wp2_with fail
   clear cd5
   go_loopw [5] (fun i wr => ∃ (q : Nat) (Q : Nat → Sl) (U : Nat → Nat → Sl), q ≤ N5 ∧ i = .int .i64 (q : Int) ∧ PsG B hb w P S 5 q Q U wr) (fun i _ => N5 - (intOf i).toNat)
   case atStart =>
    obtain ⟨Q0, U0, h0⟩ := HS5.out
    exact ⟨0, Q0, U0, Nat.zero_le _, rfl, h0⟩
   case round =>
    as_aux_lemma =>
    obtain ⟨q, Q, U, hq, rfl, hf⟩ := hrel
    have HF : Hid (PsG B hb w P S 5 q Q U wr) := hf
    have cc : wr.cell? ⟨hb, 10, none⟩ = some (.slice (S.r 5).a N5 (S.r 5).c) := by have h1 := hf.cell (d := 5) (by omega); rwa [HN.out.1 5 (by omega), HN5.out] at h1
    obtain ⟨⟨ma, mn, mc⟩, hQ⟩ : ∃ x, Q 5 = x := ⟨_, rfl⟩
    obtain rfl : q = mn := by have h1 := hf.at_; rw [hQ] at h1; exact h1.symm
    have HQ0 : Hid (Q 5 = ⟨ma, q, mc⟩) := hQ
    clear hf HS5 hQ
    have i1 : (0 : Int) ≤ (q : Int) := Int.natCast_nonneg _
    by_cases hlt : q < N5
    ·have i2 : (q : Int) < (N5 : Int) := by omega
     obtain ⟨⟨xa, xn, xc⟩, hx⟩ : ∃ x, S.v 5 q = x := ⟨_, rfl⟩
     have hqn : q < S.N 5 := by rw [HN5.out]; exact hlt
     have hqr : q < (S.r 5).n := by rw [HN.out.1 5 (by omega)]; exact hqn
     have hxn : xn ≤ 100000000 := by have h1 := HN.out.2.2 5 (by omega) q hqn; rw [hx] at h1; exact h1
     have HqN : Hid (q < S.N 5) := hqn
     obtain ⟨bg, hba, hcq⟩ := HF.out.at (d := 5) (by omega) hqr
     have cq : wr.cell? ⟨bg, q, none⟩ = some (.slice xa xn xc) := by
      rw [hcq, hx]; rfl
     rw [hba] at cc
     obtain ⟨rc, hrc⟩ : ∃ rc, (S.r 5).c = rc := ⟨_, rfl⟩
     rw [hrc] at cc
     have HG : Hid (PgG B hb w P S 5 q Q U 0 ⟨xa, xn, xc⟩ wr) := by
      have h1 := PgG.start HF.out (by omega) hqn
      rw [hx] at h1
      exact h1
     clear hx hba hcq hqr hqn hrc HF
     go_wp2_with fail
     go_loopw [6, 7] (fun m k wr => ∃ (r : Nat) (x : Sl), r ≤ 64 ∧ m = .slice x.a x.n x.c ∧ k = .int .i64 (r : Int) ∧ x.n = xn + r ∧ PgG B hb w P S 5 q Q U r x wr) (fun _ k _ => 64 - (intOf k).toNat)
     case atStart => exact ⟨0, ⟨xa, xn, xc⟩, by omega, rfl, rfl, rfl, HG.out⟩
     case round =>
      as_aux_lemma =>
      obtain ⟨r, ⟨ya, yn, yc⟩, hr, rfl, rfl, hyn, hg⟩ := hrel
      have hyn2 : yn ≤ 100000064 := by have h1 : yn = xn + r := hyn; omega
      have HYn : Hid (yn = xn + r) := hyn
      have HG2 : Hid (PgG B hb w P S 5 q Q U r ⟨ya, yn, yc⟩ wr) := hg
      clear hyn hg HG cc cq
      have j1 : (0 : Int) ≤ (r : Int) := Int.natCast_nonneg _
      by_cases hlk : r < 64
      ·have j2 : (r : Int) < 64 := by omega
       go_wp2_with (first
        | (refine wl_buildZ rfl 97 _ rfl (built_eq (by kernel_rfl) (bF5 (-1000 - (q : Int)))) ?_)
        | (refine wl_bsl rfl 60 97 1 _ rfl Try.underlying60 #[.int .i64 0, .int .i64 0, .int .i64 (-1000 - (q : Int)), .slice none 0 0] (bsl_eq (by kernel_rfl) (bs5 (-1000 - (q : Int)))) ?_; intro V kv bv sv)
        | (refine wl_appK rfl _ _ 60 rfl B 97 e5 z5 4 48 Try.underlying60 e5h e5z0 e5z1 e5z2 e5z3 (by omega) (.slice ya yn yc) yn (rv (yn * 4) (G 5 q)) rfl (own_still (HG2.out.own (by omega)) bv) (nb := wr.heap.size) (mrk 5 q) rfl rfl kv (mrk_one 5 q) (by unfold maxLen; omega) (by omega) (HG2.out.hB HBw.out bv) ?_; intro a1 c1 Y ho hk he hold; have HQ : Hid (PgG B hb w P S 5 q Q U (r + 1) ⟨a1, yn + 1, c1⟩ Y) := (HG2.out.still bv).grow (by omega) HqN.out ho hk he hold; clear ho hk he hold kv bv sv)
        | fail)
       exact ⟨⟨r + 1, ⟨a1, yn + 1, c1⟩, by omega, rfl, by go_num, by show yn + 1 = _; have := HYn.out; omega, HQ.out⟩, by simp [intOf]; omega⟩
      ·obtain rfl : r = 64 := by omega
       have c1 : wr.cell? ⟨hb, 11, none⟩ = some (.slice ma q mc) := by have h1 := HG2.out.p.cellQ (d := 5) (by omega); rwa [HQ0.out] at h1
       go_wp2_with (first
        | (refine wl_bsl rfl 38 60 1 _ rfl Try.underlying38 #[.slice ya yn yc] (bsl_eq (by kernel_rfl) (bsL5 ya yn yc)) ?_; intro V kv bv sv; have hpV := HG2.out.still bv)
        | (refine app_g rfl _ _ 38 rfl B 60 l5 (.slice none 0 0) 1 24 Try.underlying38 l5h l5z0 l5z1 l5z2 rfl (by omega) (.slice ma q mc) q _ rfl (hpV.more (by omega) HQ0.out) (some ⟨wr.heap.size, 0, none⟩) 1 1 [.slice ya yn yc] rfl (fun h => by cases h) rfl (fun ad had j u hu => by cases had; rw [Addr.add_lit, Nat.zero_add, blk_cell kv]; simpa using hu) (oneV _ rfl) (by unfold maxLen; omega) (by omega) (HG2.out.hB HBw.out bv) ?_; intro v1 Y ho hk he; obtain ⟨a1, c1', rfl⟩ := own_sh ho.out; have hbk := hpV.hbk (by omega) HQ0.out hk.out)
        | (refine wl_stS rfl 38 _ _ rfl (g := hb) (p := 11) rfl rfl hbk (show 11 < 16 from by omega) oL5 rfl ?_; have HQ : Hid (∃ Q' U', PsG B hb w P S 5 (q + 1) Q' U' (Y.setCell ⟨hb, 11, none⟩ (.slice a1 (q + 1) c1'))) := hpV.done' (by omega) HQ0.out ho.out hk.out he.out; clear ho hk he hbk hpV kv bv sv; generalize Y.setCell ⟨hb, 11, none⟩ (.slice a1 (q + 1) c1') = Z at *)
        | fail)
       obtain ⟨Q', U', hQ'⟩ := HQ.out
       exact ⟨⟨q + 1, Q', U', by omega, by go_num, hQ'⟩, by simp [intOf]; omega⟩
    ·have hqe : q = N5 := by omega
     have HS6 : Hid (∃ Q U, PsG B hb w P S 5 (S.N 5) Q U wr) := by
      have h1 := HF.out
      rw [show q = S.N 5 by rw [HN5.out]; exact hqe] at h1
      exact ⟨Q, U, h1⟩
     have i9 : ¬ (q : Int) < (N5 : Int) := by omega
     clear HF HQ0 hlt hq hqe
     obtain ⟨W_5, hW⟩ : ∃ W0, W0 = wr := ⟨_, rfl⟩
     subst hW
     go_wp2_with fail
     (first | go_end0 | ((try simp only [Exit.inBlock, Exit.then]); refine bodyPost_ret (results_none rfl _ _ _) rfl ?_))
     exact ⟨rfl, HS6.out⟩
end
end Go.Proofs.Ytobaooebjgoaiaa.Hh
