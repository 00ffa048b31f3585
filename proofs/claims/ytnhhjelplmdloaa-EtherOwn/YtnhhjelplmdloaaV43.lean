import Derived.Test.YtnhhjelplmdloaaV39
import Derived.Test.YtnhhjelplmdloaaV41
import Derived.Test.YtnhhjelplmdloaaV24
import Derived.Test.YtnhhjelplmdloaaV42
namespace Go.Proofs.Ytnhhjelplmdloaa.Et
open Go.RowKit Go.Maps
set_option linter.unusedVariables false
set_option linter.unusedSimpArgs false
set_option maxRecDepth 100000
section
variable {E E1 E' : En} {w w' w0 w1 w2 w3 W0 : World} {B K m sb i : Nat} {S S' : St} {P : Nat → Prop}
set_option maxHeartbeats 400000 in
theorem take_ok2 (h : E.Ok w B m) (k : Nat) (hk : k < E.fs.length) (hlen : E.fs.length ≤ 20000) (p q : Nat) (hs : (E.fs.getD k f0).src = p) (hd : (E.fs.getD k f0).dst = q) (hp : p < E.nn) (hq : q < E.nn) (hb : barE E p q = 0) : Calls Try.prog 19 #[.pointer (some ⟨E.b, 0, none⟩), .int .i64 k] w fun e w' => e = .returned (.tuple #[.agg (E.fs.getD k f0).cs, .int .i64 0]) ∧ (∃ a c, Step w w' E { E with va := a, vc := c, fs := E.fs.eraseIdx k } B m) ∧ (E.fs.getD k f0).byt w' B := by
  have hmem := mem_getD hk
  generalize hf : E.fs.getD k f0 = f at hs hd hmem ⊢
  have hfb := h.fls.byt f hmem
  have hfo : ∀ j, f.v.ownBlock = some j → j < w.heap.size ∧ ¬ ((Value.slice E.va E.fs.length E.vc).ownBlock = some j ∨ j = E.b) := fun j hj => ⟨(World.ownsRow.lt hfb.1 j hj).2, fun e => e.elim (h.byt_ne hmem hj).2.2.2.2 (h.byt_ne hmem hj).1⟩
  have hro : ∀ j, ((Value.slice E.va E.fs.length E.vc).ownBlock = some j ∨ j = E.b) → j < w.heap.size := fun j hj => hj.elim (fun e => h.ltOwn (.inr (.inr (.inr (.inr (.inl e)))))) (fun e => h.ltOwn (.inl e))
  generalize hW : w.alloc (.cells #[.int .i64 0, .int .i64 0, .int .i64 0, .int .i64 0, .slice none 0 0] 43) = W
  have hbW : Below w.heap.size w W := by rw [← hW]; exact balloc (Below.refl _ w)
  have hblk : W.heap[w.heap.size]? = some (.cells #[.int .i64 0, .int .i64 0, .int .i64 0, .int .i64 0, .slice none 0 0] 43 (0, 0)) := by rw [← hW]; exact heap_alloc_new w _
  have hWs : W.heap.size = w.heap.size + 1 := by rw [← hW]; simp
  have HP := isPlace_any (h.still hbW) k
  rw [decide_eq_true (by omega)] at HP
  obtain ⟨g, hva, u0, u1, u2, u3, u4, uz⟩ := (h.still hbW).flC hk
  have c6 := (h.still hbW).c6
  rw [hva] at c6
  rw [hf] at u0 u1 u2 u3 u4
  have HBa : Hid (∀ w', Below w.heap.size w w' → Calls Try.prog 27 #[.pointer (some ⟨E.b, 0, none⟩), .agg f.cs] w' fun e w2 => e = .returned (.int .i64 (barE E p q)) ∧ Below w'.heap.size w' w2) := fun w' hb' => barrier_any (h.still hb') f p q hs hd hp hq
  have HDr : Hid (∀ w', Below w.heap.size w w' → Calls Try.prog 43 #[.pointer (some ⟨E.b, 0, none⟩), .int .i64 k] w' fun e w2 => e = .returned (.tuple #[]) ∧ (∃ a c, Step w' w2 E { E with va := a, vc := c, fs := E.fs.eraseIdx k } B m) ∧ Kept w' w2 (fun j => (Value.slice E.va E.fs.length E.vc).ownBlock = some j ∨ j = E.b)) := fun w' hb' => drop_any (h.still hb') k hk hlen
  rw [hb] at HBa
  have Hb : Hid (Below w.heap.size w W) := hbW
  have HB : Hid (W.heap[w.heap.size]? = some (.cells #[.int .i64 0, .int .i64 0, .int .i64 0, .int .i64 0, .slice none 0 0] 43 (0, 0))) := hblk
  have i1 : (0 : Int) ≤ (k : Int) := Int.natCast_nonneg _
  have i2 : (k : Int) < (E.fs.length : Int) := by omega
  have HE : Hid (E.Ok w B m) := h
  have Hfo : Hid (∀ j, f.v.ownBlock = some j → j < w.heap.size ∧ ¬ ((Value.slice E.va E.fs.length E.vc).ownBlock = some j ∨ j = E.b)) := hfo
  have Hro : Hid (∀ j, ((Value.slice E.va E.fs.length E.vc).ownBlock = some j ∨ j = E.b) → j < w.heap.size) := hro
  have Hfb : Hid (f.byt w B) := hfb
  clear h hbW hblk uz hfo hro hfb hb
  unfold Fx.cs at HBa ⊢
  rw [hs, hd] at HBa ⊢
  rw [hs] at u1
  rw [hd] at u2
  go_enter Try.func19, Try.ntmps19
  go_wp2_with (first
    | (go_at_call 42; refine HP.mono ?_; rintro e w1 ⟨rfl, rfl⟩)
    | (go_at_call 27; refine (HBa.out _ (by repeat (first | exact Below.refl _ _ | assumption | exact Hb.out | apply Below.drew | apply balloc))).mono ?_; rintro e w2 ⟨rfl, hb2⟩; have R2 : Hid (Below w.heap.size w w2) := (bstep (balloc Hb.out) hb2); have HB2 : Hid (w2.heap[w.heap.size]? = some (.cells #[.int .i64 0, .int .i64 0, .int .i64 0, .int .i64 0, .slice none 0 0] 43 (0, 0))) := ((hb2.block _ (by simp; omega)).trans (by first | exact blk_alloc HB.out | exact HB.out)); have HF2 : Hid (w2.heap[w.heap.size + 1]? = some (.cells #[.int .i64 f.id, .int .i64 p, .int .i64 q, .int .i64 f.due, .slice f.a f.n f.c] 43 (0, 0))) := ((hb2.block _ (by simp; omega)).trans (by rw [← hWs]; exact heap_alloc_new W _)); clear hb2)
    | (go_at_call 43; refine (HDr.out _ R2.out).mono ?_; rintro e w3 ⟨rfl, ⟨av, cv, hs3⟩, hk3⟩; have HS3 : Hid (Step w w3 E { E with va := av, vc := cv, fs := E.fs.eraseIdx k } B m) := (Step.pre R2.out hs3); have HB3 : Hid (w3.heap[w.heap.size]? = some (.cells #[.int .i64 0, .int .i64 0, .int .i64 0, .int .i64 0, .slice none 0 0] 43 (0, 0))) := (hk3.obj HB2.out (fun e => by have := Hro.out _ e; omega)); have HF3 : Hid (w3.heap[w.heap.size + 1]? = some (.cells #[.int .i64 f.id, .int .i64 p, .int .i64 q, .int .i64 f.due, .slice f.a f.n f.c] 43 (0, 0))) := (hk3.obj HF2.out (fun e => by have := Hro.out _ e; omega)); obtain ⟨e0, e1, e2, e3, e4⟩ := fl_cells HB3.out; obtain ⟨g0, g1, g2, g3, g4⟩ := fl_frz HB3.out; obtain ⟨x0, x1, x2, x3, x4⟩ := fl_cells HF3.out; have HO3 : Hid (∀ j, ({ E with va := av, vc := cv, fs := E.fs.eraseIdx k } : En).own j → E.own j ∨ w2.heap.size ≤ j) := hs3.own; have HK3 : Hid (Kept w2 w3 (fun j => (Value.slice E.va E.fs.length E.vc).ownBlock = some j ∨ j = E.b)) := hk3; clear hs3 hk3)
    | fail)
  rw [put5_eq]
  obtain ⟨q0, q1, q2, q3, q4⟩ := fl_cells (put5_blk (.int .i64 f.id) (.int .i64 p) (.int .i64 q) (.int .i64 f.due) (.slice f.a f.n f.c) HB3.out)
  have hne : ¬ ({ E with va := av, vc := cv, fs := E.fs.eraseIdx k } : En).own w.heap.size := by
    intro ho
    rcases HO3.out _ ho with h1 | h1
    · have := HE.out.ltOwn h1; omega
    · have := lt_heap HB2.out; omega
  exact bodyPost_ret (v := .tuple #[.agg #[.int .i64 f.id, .int .i64 p, .int .i64 q, .int .i64 f.due, .slice f.a f.n f.c], .int .i64 0]) (by simp [results, Try.results19, go_sem, q0, q1, q2, q3, q4]) rfl ⟨rfl, ⟨av, cv, HS3.out.after (w2 := w2) (put5_kept _ _ _ _ _ _) hne⟩, (((Hfb.out.keep (Kept.ofBelow R2.out (fun _ => False)) (fun _ _ => id)).keep HK3.out (fun j hj => (Hfo.out j hj).2)).keep (put5_kept _ _ _ _ _ _) (fun j hj e => by have := (Hfo.out j hj).1; omega))⟩
theorem pw_ne {L : List Fx} (h : L.Pairwise Fx.apart) {f g : Fx} (hf : f ∈ L) (hg : g ∈ L) (hne : f ≠ g) : f.apart g := by
  obtain ⟨i, hi, e1⟩ := getD_mem hf
  obtain ⟨j, hj, e2⟩ := getD_mem hg
  rw [← e1, ← e2]
  exact pw_mem h hi hj (fun e => hne (by rw [← e1, ← e2, e]))
structure Wd (W0 w : World) (B sb : Nat) (E : En) (S : St) (K i : Nat) : Prop where
  e : E.Ok w B (256 * K)
  inv : Inv E K
  room : E.room = 50
  hB : B ≤ w.heap.size
  s : S.Ok w B sb Gb Gf
  bn : S.b.n = S.N
  mn : S.m.n = S.N
  on : S.o.n = S.M
  ln : S.l.n = S.M
  bN : S.N ≤ 150 * i
  bM : S.M = 3 * i
  lb : ∀ j, j < S.N → (S.vb j).n ≤ 40000
  lo : ∀ j, j < S.M → (S.vo j).n ≤ 1000
  ap : ∀ j, E.own j → ¬ S.own sb j
  lw : Below B W0 w
theorem Wd.fit (h : Wd W0 w B sb E S K i) (hi : i ≤ 60) : S.Fit := ⟨h.bn, h.mn, h.on, h.ln, by have := h.bN; omega, by have := h.bM; omega, h.lb, h.lo⟩
theorem Wd.still (h : Wd W0 w B sb E S K i) (hb : Below w.heap.size w w') : Wd W0 w' B sb E S K i :=
  ⟨h.e.still hb, h.inv, h.room, Nat.le_trans h.hB hb.size, h.s.still hb, h.bn, h.mn, h.on, h.ln, h.bN, h.bM, h.lb, h.lo, h.ap, h.lw.trans (hb.mono h.hB)⟩
theorem Wd.up (h : Wd W0 w B sb E S K i) : Wd W0 w B sb E S (K + 1) i :=
  ⟨h.e.mono (by omega), h.inv.mono (Nat.le_succ _), h.room, h.hB, h.s, h.bn, h.mn, h.on, h.ln, h.bN, h.bM, h.lb, h.lo, h.ap, h.lw⟩
theorem Wd.step (h : Wd W0 w B sb E S K i) {m1 : Nat} (st : Step w w1 E E1 B m1) (hm : m1 ≤ 256 * (K + 1)) (hx : Nx E E1 K) : Wd W0 w1 B sb E1 S (K + 1) i := by
  have hs : S.Ok w1 B sb Gb Gf := h.s.keep st.kept (fun j hj e => h.ap j e hj)
  refine ⟨st.ok.mono hm, hx.inv, hx.room.trans h.room, Nat.le_trans h.hB st.kept.size, hs, h.bn, h.mn, h.on, h.ln, h.bN, h.bM, h.lb, h.lo, fun j hj e => ?_, h.lw.trans (st.kept.below h.hB (fun j hj e => by have := h.e.geOwn e; omega))⟩
  rcases st.own j hj with h1 | h1
  · exact h.ap j h1 e
  · have := (h.s.lt e).1; omega
structure Md (W0 w : World) (B sb : Nat) (E : En) (S : St) (K i : Nat) (s : Sl) (L : List Fx) : Prop where
  d : Wd W0 w B sb E S K i
  l : Ht w B (fun j => E.own j ∨ S.own sb j) s L
  few : s.n ≤ 50
theorem Md.still {s : Sl} {L : List Fx} (h : Md W0 w B sb E S K i s L) (hb : Below w.heap.size w w') : Md W0 w' B sb E S K i s L := ⟨h.d.still hb, h.l.still hb, h.few⟩
theorem Wd.none (h : Wd W0 w B sb E S K i) : Md W0 w B sb E S K i ⟨none, 0, 0⟩ [] := by
  refine ⟨h, ⟨⟨rfl, own_nil _ _, fun q hq => absurd hq (Nat.not_lt_zero q), fun q r hq hr hne => absurd hq (Nat.not_lt_zero q)⟩, fun j hj => ?_, Nat.zero_le _, fun f hf => absurd hf List.not_mem_nil⟩, Nat.zero_le _⟩
  rcases hj with hj | ⟨f, hf, _⟩
  · simp [Sl.v, Value.ownBlock] at hj
  · exact absurd hf List.not_mem_nil
theorem Wd.goes (h : Wd W0 w B sb E S K i) (g : Goes w w1 E B K) : ∃ E1, Wd W0 w1 B sb E1 S (K + 1) i ∧ E1.b = E.b := by
  obtain ⟨E1, m1, st, hm, hx⟩ := g
  exact ⟨E1, h.step st hm hx, hx.b⟩
theorem mid_round (h : Wd W0 w B sb E S K i) (hK : K ≤ 2199023255551) : Calls Try.prog 9 #[.pointer (some ⟨E.b, 0, none⟩)] w fun e w1 => ∃ a n c L E1, e = .returned (.slice a n c) ∧ Md W0 w1 B sb E1 S (K + 1) i ⟨a, n, c⟩ L ∧ E1.b = E.b := by
  have hfew : E.fs.length ≤ 50 := by have := h.inv.few; have := h.room; omega
  refine (round_any2 h.e h.hB (by omega)).mono ?_
  rintro e w1 ⟨a, n, c, rfl, ⟨L, hsub, hmap, hlen, hrow, hbyt⟩, st⟩
  have hx : Nx E { E with clock := ckN E, fs := E.fs.filter (stays E) } K := ⟨inv_round h.inv hK, rfl, rfl, rfl⟩
  have hpw : E.fs.Pairwise Fx.apart := h.e.fls.apt
  have hlow : ∀ j, En.own { E with clock := ckN E, fs := E.fs.filter (stays E) } j → j < w.heap.size := fun j hj => h.e.ltOwn (by
    rcases hj with hj | hj | hj | hj | hj | ⟨f, hf, hj⟩
    · exact .inl hj
    · exact .inr (.inl hj)
    · exact .inr (.inr (.inl hj))
    · exact .inr (.inr (.inr (.inl hj)))
    · exact .inr (.inr (.inr (.inr (.inl (by rw [own_blk E.va E.fs.length (E.fs.filter (stays E)).length E.vc E.vc]; exact hj)))))
    · exact .inr (.inr (.inr (.inr (.inr ⟨f, (List.mem_filter.1 hf).1, hj⟩)))))
  refine ⟨a, n, c, L, _, rfl, ⟨h.step st (by omega) hx, ⟨⟨hlen, own_lower hrow h.hB, fun i hi => hbyt _ (mem_getD (by rw [hlen]; exact hi)), fun i j hi hj hne => pw_mem (hpw.sublist hsub) (by rw [hlen]; exact hi) (by rw [hlen]; exact hj) hne⟩, fun j hj => ?_, ?_, fun f hf => h.inv.szE f (hsub.subset hf)⟩, ?_⟩, rfl⟩
  · rcases hj with hj | ⟨f, hf, hj⟩
    · have h1 := (World.ownsRow.lt hrow j hj).1
      rintro (e | e)
      · have := hlow j e; omega
      · have := (h.s.lt e).1; omega
    · have hfE := hsub.subset hf
      rintro (e | e)
      · have hn := h.e.byt_ne hfE hj
        rcases e with e | e | e | e | e | ⟨g, hg, e⟩
        · exact hn.1 e
        · exact hn.2.1 e
        · exact hn.2.2.1 e
        · exact hn.2.2.2.1 e
        · exact hn.2.2.2.2 (by rw [own_blk E.va E.fs.length (E.fs.filter (stays E)).length E.vc E.vc]; exact e)
        · obtain ⟨hgE, hgs⟩ := List.mem_filter.1 hg
          have hfd : f.d ∈ (E.fs.filter (comes E)).map Fx.d := by rw [← hmap]; exact List.mem_map.2 ⟨f, hf, rfl⟩
          obtain ⟨x, hx1, hx2⟩ := List.mem_map.1 hfd
          have hx3 := (List.mem_filter.1 hx1).2
          have hdue : f.due = ckN E := by
            have e3 : x.due = f.due := congrArg Fd.due hx2
            rw [← e3]
            unfold comes at hx3
            rw [Bool.and_eq_true] at hx3
            exact of_decide_eq_true hx3.1
          have hgd : g.due ≠ ckN E := of_decide_eq_true hgs
          exact pw_ne hpw hfE hgE (fun e4 => hgd (by rw [← e4]; exact hdue)) j hj e
      · exact h.ap j (.inr (.inr (.inr (.inr (.inr ⟨f, hfE, hj⟩))))) e
  · show n ≤ 1000
    have := hsub.length_le
    omega
  · show n ≤ 50
    have := hsub.length_le
    omega
structure TkY (w1 : World) (B sb : Nat) (E1 : En) (S : St) (f : Fx) : Prop where
  byt : f.byt w1 B
  sz : f.n ≤ 40000
  off : ∀ j, f.v.ownBlock = some j → ¬ (E1.own j ∨ S.own sb j)
theorem mid_take (h : Wd W0 w B sb E S K i) (p : Int) : Calls Try.prog 19 #[.pointer (some ⟨E.b, 0, none⟩), .int .i64 p] w fun e w1 => ∃ (f : Fx) (y : Int) (E1 : En), e = .returned (.tuple #[.agg f.cs, .int .i64 y]) ∧ Wd W0 w1 B sb E1 S (K + 1) i ∧ E1.b = E.b ∧ (y = 0 → TkY w1 B sb E1 S f) := by
  have hfew : E.fs.length ≤ 50 := by have := h.inv.few; have := h.room; omega
  by_cases hk : 0 ≤ p ∧ p < E.fs.length
  · obtain ⟨h0, h1⟩ := hk
    obtain ⟨k, rfl⟩ : ∃ k : Nat, p = k := ⟨p.toNat, by omega⟩
    have hi : k < E.fs.length := by omega
    have hm := mem_getD hi
    obtain ⟨a, q, ha, hq, han, hqn, haq⟩ := h.e.pth _ hm
    by_cases hb0 : barE E a q = 0
    · refine (take_ok2 h.e k hi (by omega) a q ha hq han hqn hb0).mono ?_
      rintro e w1 ⟨rfl, ⟨a', c', st⟩, hby⟩
      refine ⟨_, 0, _, rfl, h.step st (by omega) ⟨inv_sub h.inv a' c' _ (List.eraseIdx_sublist _ _), rfl, rfl, rfl⟩, rfl, fun _ => ⟨hby, h.inv.szE _ hm, fun j hj => ?_⟩⟩
      rintro (e | e)
      · have hn := h.e.byt_ne hm hj
        rcases e with e | e | e | e | e | ⟨g, hg, e⟩
        · exact hn.1 e
        · exact hn.2.1 e
        · exact hn.2.2.1 e
        · exact hn.2.2.2.1 e
        · exact own_ty hby.1 st.ok.fls.row (by decide) hj e
        · obtain ⟨x, hx, hne, e3⟩ := List.mem_eraseIdx_iff_getElem.1 hg
          have e4 : E.fs.getD x f0 = g := by rw [← e3]; simp [List.getD, List.getElem?_eq_getElem hx]
          have := pw_mem h.e.fls.apt hi hx (fun e5 => hne e5.symm)
          rw [e4] at this
          exact this j hj e
      · exact h.ap j (.inr (.inr (.inr (.inr (.inr ⟨_, hm, hj⟩))))) e
    · exact (take_bar h.e k hi a q ha hq han hqn hb0).mono fun e w1 ⟨x1, x2⟩ => ⟨f0, _, E, x1, (h.still x2).up, rfl, fun e => absurd e hb0⟩
  · exact (take_none h.e p hk).mono fun e w1 ⟨x1, x2⟩ => ⟨f0, 34, E, x1, (h.still x2).up, rfl, fun e => absurd e (by decide)⟩
theorem Wd.one (h : Wd W0 w B sb E S K i) {f : Fx} (t : TkY w B sb E S f) (hb : Below w.heap.size w w1) {a : Option Addr} {c : Nat} (ho : w1.ownsRow w.heap.size 43 5 (.slice a 1 c) 1 f.cs.toList) : Md W0 w1 B sb E S K i ⟨a, 1, c⟩ [f] := by
  refine ⟨h.still hb, ⟨⟨rfl, by
    have := own_lower ho h.hB
    simpa [flCells] using this, fun q hq => ?_, fun q r hq hr hne => ?_⟩, fun j hj => ?_, by show 1 ≤ 1000; omega, fun g hg => ?_⟩, by show 1 ≤ 50; omega⟩
  · have hq : q < 1 := hq
    obtain rfl : q = 0 := by omega
    exact t.byt.keep (Kept.ofBelow hb (fun _ => False)) (fun _ _ => id)
  · have hq : q < 1 := hq
    have hr : r < 1 := hr
    omega
  · rcases hj with hj | ⟨g, hg, hj⟩
    · have h1 := (World.ownsRow.lt ho j hj).1
      rintro (e | e)
      · have := h.e.ltOwn e; omega
      · have := (h.s.lt e).1; omega
    · rw [List.mem_singleton.1 hg] at hj
      exact t.off j hj
  · rw [List.mem_singleton.1 hg]; exact t.sz
end
end Go.Proofs.Ytnhhjelplmdloaa.Et
namespace Go.Proofs.Ytnhhjelplmdloaa.Et
open Go.RowKit Go.Maps
set_option linter.unusedVariables false
set_option linter.unusedSimpArgs false
set_option maxRecDepth 100000
section
variable {E E1 E' : En} {w w' w0 w1 w2 w3 W0 : World} {B K m sb i : Nat} {S S' : St} {P : Nat → Prop}
theorem byt_n {f : Fx} (h : f.byt w B) : f.n = f.bs.length := by
  have := h.1.1
  rw [List.length_map] at this
  omega
theorem RdG.szd {a : Option Addr} {n c : Nat} {L fs : List Fx} (h : RdG w B a n c L) {B' : Nat} (hb : ∀ f ∈ fs, f.byt w' B') (hs : ∀ f ∈ fs, f.n ≤ 40000) (hd : L.map Fx.d = fs.map Fx.d) : ∀ f ∈ L, f.n ≤ 40000 := fun f hf => by
  have h1 : f.d ∈ fs.map Fx.d := by rw [← hd]; exact List.mem_map.2 ⟨f, hf, rfl⟩
  obtain ⟨g, hg, e⟩ := List.mem_map.1 h1
  have e2 : g.bs = f.bs := congrArg Fd.bs e
  rw [byt_n (h.bytM hf), ← e2, ← byt_n (hb g hg)]
  exact hs g hg
structure Bd (W0 : World) (B sb : Nat) (E : En) (S : St) (K i : Nat) (s : Sl) (a1 a2 a4 : Option Addr) (c4 : Nat) (w5 : World) : Prop where
  c0 : w5.cell? ⟨sb, 0, none⟩ = some (.slice S.b.a S.N S.b.c)
  c2 : w5.cell? ⟨sb, 2, none⟩ = some (.slice S.o.a S.M S.o.c)
  put : ∀ V : World, V.heap[w5.heap.size]? = some (.cells #[s.v, .slice a1 E.fs.length E.fs.length, .slice a2 E.fs.length E.fs.length] 39 (0, 0)) → Below w5.heap.size w5 V → w5.heap.size < V.heap.size →
    Calls Try.prog 23 #[.pointer (some ⟨sb, 0, none⟩), .slice (some ⟨w5.heap.size, 0, none⟩) 3 3] V fun e w6 => e = .returned (.tuple #[]) ∧
      Calls Try.prog 15 #[.pointer (some ⟨E.b, 0, none⟩)] w6 fun e w7 => ∃ a7, e = .returned (.slice a7 E.fs.length E.fs.length) ∧
        Calls Try.prog 22 #[.slice a4 E.fs.length c4, .slice a7 E.fs.length E.fs.length] w7 fun e w8 => e = .returned (.bool true) ∧
          Calls Try.prog 24 #[.pointer (some ⟨sb, 0, none⟩), .int .i64 (S.N : Int), .int .i64 (S.M : Int)] w8 fun e w9 => e = .returned (.bool true) ∧ ∃ S', Wd W0 w9 B sb E S' K (i + 1)
theorem body_put {s : Sl} {L L1 L2 L4 : List Fx} {w3 w5 : World} {a1 a2 a4 : Option Addr} {c4 : Nat} (hi : i < 60) (h : Md W0 w B sb E S K i s L) (b5 : Below w.heap.size w w5) (g1 : RdG w5 w.heap.size a1 E.fs.length E.fs.length L1) (lt1 : ∀ j, low ⟨a1, E.fs.length, E.fs.length⟩ L1 j → j < w2.heap.size) (g2 : RdG w5 w2.heap.size a2 E.fs.length E.fs.length L2) (lt2 : ∀ j, low ⟨a2, E.fs.length, E.fs.length⟩ L2 j → j < w3.heap.size) (h23 : w.heap.size ≤ w2.heap.size ∧ w2.heap.size ≤ w3.heap.size ∧ w3.heap.size ≤ w5.heap.size) (d1 : L1.map Fx.d = E.fs.map Fx.d) (d2 : L2.map Fx.d = E.fs.map Fx.d) (ap : Ap w5 w3.heap.size (E.fs.map Fx.d) E.fs.length a4 c4 L4) : Bd W0 B sb E S K i s a1 a2 a4 c4 w5 := by
  have h5 := h.still b5
  have hfew : E.fs.length ≤ 50 := by have := h.d.inv.few; have := h.d.room; omega
  have hLn : L.length ≤ 50 := by have := h.l.g.len; have := h.few; omega
  have hL1 : L1.length = E.fs.length := g1.len
  have hL2 : L2.length = E.fs.length := g2.len
  refine ⟨by have := h5.d.s.c0; rwa [h.d.bn] at this, by have := h5.d.s.c2; rwa [h.d.on] at this, fun V hV bV hVs => ?_⟩
  have hB := h.d.hB
  have hE := fun j (hj : E.own j) => h.d.e.ltOwn hj
  have hSo := fun j (hj : S.own sb j) => h.d.s.lt hj
  have hl := fun j (hj : low s L j) => h.l.lt hj
  have hl1 := fun j (hj : low ⟨a1, E.fs.length, E.fs.length⟩ L1 j) => g1.lt hj
  have hl2 := fun j (hj : low ⟨a2, E.fs.length, E.fs.length⟩ L2 j) => g2.lt hj
  have hV5 := h5.still bV
  have H3V : H3 V B (S.own sb) s ⟨a1, E.fs.length, E.fs.length⟩ ⟨a2, E.fs.length, E.fs.length⟩ L L1 L2 :=
    ⟨⟨hV5.l.g, fun j hj e => h.l.off j hj (.inr e), h.l.few, h.l.sz⟩,
     ⟨(g1.lower hB).still bV, fun j hj e => by have := (hl1 j hj).1; have := (hSo j e).1; omega, by show E.fs.length ≤ 1000; omega, g1.szd h.d.e.fls.byt h.d.inv.szE d1⟩,
     ⟨(g2.lower (Nat.le_trans hB h23.1)).still bV, fun j hj e => by have := (hl2 j hj).1; have := (hSo j e).1; omega, by show E.fs.length ≤ 1000; omega, g2.szd h.d.e.fls.byt h.d.inv.szE d2⟩,
     fun j hj e => by have := (hl j hj).2; have := (hl1 j e).1; omega,
     fun j hj e => by have := (hl j hj).2; have := (hl2 j e).1; omega,
     fun j hj e => by have := lt1 j hj; have := (hl2 j e).1; omega⟩
  have hlen : (L ++ L1 ++ L2).length = L.length + E.fs.length + E.fs.length := by simp [hL1, hL2, Nat.add_assoc]
  have hbN := h.d.bN
  have hbM := h.d.bM
  have ok := hV5.d.s.ext H3V h.d.mn h.d.ln h.d.bn h.d.on
  have lk := hV5.d.s.lk3 H3V h.d.mn h.d.ln h.d.bn h.d.on (by omega) (by omega) h.d.lb h.d.lo
  have hown : ∀ j, (S.ext s ⟨a1, E.fs.length, E.fs.length⟩ ⟨a2, E.fs.length, E.fs.length⟩ (L ++ L1 ++ L2)).own sb j → S.own sb j ∨ low s L j ∨ low ⟨a1, E.fs.length, E.fs.length⟩ L1 j ∨ low ⟨a2, E.fs.length, E.fs.length⟩ L2 j := fun j hj => St.ext_own (LL := []) hj h.d.mn h.d.ln
  have hlt3 : ∀ j, (S.ext s ⟨a1, E.fs.length, E.fs.length⟩ ⟨a2, E.fs.length, E.fs.length⟩ (L ++ L1 ++ L2)).own sb j → j < w3.heap.size := fun j hj => by
    rcases hown j hj with e | e | e | e
    · have := (hSo j e).1; omega
    · have := (hl j e).2; omega
    · have := lt1 j e; omega
    · exact lt2 j e
  have hEo : ∀ j, E.own j → ¬ (S.ext s ⟨a1, E.fs.length, E.fs.length⟩ ⟨a2, E.fs.length, E.fs.length⟩ (L ++ L1 ++ L2)).own sb j := fun j hj e => by
    have h1 := hE j hj
    rcases hown j e with e | e | e | e
    · exact h.d.ap j hj e
    · exact h.l.off j e (.inl hj)
    · have := (hl1 j e).1; omega
    · have := (hl2 j e).1; omega
  have v0 : (S.ext s ⟨a1, E.fs.length, E.fs.length⟩ ⟨a2, E.fs.length, E.fs.length⟩ (L ++ L1 ++ L2)).vo S.M = s := cmb_hi S.M 0 S.vo _
  have v1 : (S.ext s ⟨a1, E.fs.length, E.fs.length⟩ ⟨a2, E.fs.length, E.fs.length⟩ (L ++ L1 ++ L2)).vo (S.M + 1) = ⟨a1, E.fs.length, E.fs.length⟩ := cmb_hi S.M 1 S.vo _
  have v2 : (S.ext s ⟨a1, E.fs.length, E.fs.length⟩ ⟨a2, E.fs.length, E.fs.length⟩ (L ++ L1 ++ L2)).vo (S.M + 2) = ⟨a2, E.fs.length, E.fs.length⟩ := cmb_hi S.M 2 S.vo _
  have eN : (S.ext s ⟨a1, E.fs.length, E.fs.length⟩ ⟨a2, E.fs.length, E.fs.length⟩ (L ++ L1 ++ L2)).N = S.N + (L ++ L1 ++ L2).length := rfl
  have eM : (S.ext s ⟨a1, E.fs.length, E.fs.length⟩ ⟨a2, E.fs.length, E.fs.length⟩ (L ++ L1 ++ L2)).M = S.M + 3 := rfl
  generalize S.ext s ⟨a1, E.fs.length, E.fs.length⟩ ⟨a2, E.fs.length, E.fs.length⟩ (L ++ L1 ++ L2) = S1 at ok lk hown hlt3 hEo v0 v1 v2 eN eM
  refine (put_any ok lk (by rw [v0, v1, v2]; exact hV) (fun e => by have := hlt3 _ e; omega) hV5.d.hB).mono ?_
  rintro e w6 ⟨rfl, ⟨S', ps, fN, fM, fvb, fvo, fbn, fmn, fon, fln⟩⟩
  refine ⟨rfl, ?_⟩
  have hE6 : E.Ok w6 B (256 * K) := hV5.d.e.keep ps.k hEo
  refine (flights2_any hE6 (by omega) h.d.inv.szE).mono ?_
  rintro e w7 ⟨a7, L7, rfl, g7, d7, b7⟩
  refine ⟨a7, rfl, ?_⟩
  have ap7 := ((ap.still bV).keep ps.k (fun j hj e => by have := hlt3 j e; omega)).still b7
  have r7 := g7.rdf
  rw [d7] at r7
  refine (lists_any (ap7.rdf (by simp)) r7 (by omega)).mono ?_
  rintro e w8 ⟨rfl, b8⟩
  refine ⟨rfl, ?_⟩
  have b78 : Below w6.heap.size w6 w8 := bstep b7 b8
  have hS8 : S'.Ok w8 B sb Gb Gf := ps.ok.still b78
  have hfit : S'.Fit := ⟨by rw [fbn, fN], by rw [fmn, fN], by rw [fon, fM], by rw [fln, fM], by rw [fN]; exact lk.bN, by rw [fM]; exact lk.bM, by rw [fN, fvb]; exact lk.lb, by rw [fM, fvo]; exact lk.lo⟩
  refine (whole_any hS8 hfit (by rw [fN, eN]; omega) (by rw [fM, eM]; omega)).mono ?_
  rintro e w9 ⟨rfl, b9⟩
  have b69 : Below w6.heap.size w6 w9 := bstep b78 b9
  have l6 : Below B W0 w6 := hV5.d.lw.trans (ps.k.below hV5.d.hB (fun j hj e => by have := (ok.lt e).2; omega))
  refine ⟨rfl, S', hE6.still b69, h.d.inv, h.d.room, ?_, ps.ok.still b69, hfit.bn, hfit.mn, hfit.on, hfit.ln, by rw [fN, eN, hlen]; omega, by rw [fM, eM]; omega, hfit.lb, hfit.lo, fun j hj e => ?_, ?_⟩
  · have := ps.k.size; have := b69.size; have := hV5.d.hB; omega
  · rcases ps.p j e with e | e
    · exact hEo j hj e
    · have := hE j hj; have := b5.size; omega
  · exact l6.trans (b69.mono (by have := ps.k.size; have := hV5.d.hB; omega))
theorem body_any {s : Sl} {L : List Fx} (hi : i < 60) (h : Md W0 w B sb E S K i s L) : Calls Try.prog 15 #[.pointer (some ⟨E.b, 0, none⟩)] w fun e w1 => ∃ a1, e = .returned (.slice a1 E.fs.length E.fs.length) ∧
    Calls Try.prog 17 #[.pointer (some ⟨E.b, 0, none⟩)] w1 fun e w2 => (∃ v, e = .returned v) ∧
      Calls Try.prog 15 #[.pointer (some ⟨E.b, 0, none⟩)] w2 fun e w3 => ∃ a2, e = .returned (.slice a2 E.fs.length E.fs.length) ∧
        Calls Try.prog 21 #[.slice a1 E.fs.length E.fs.length] w3 fun e w4 => ∃ a4 c4, e = .returned (.slice a4 E.fs.length c4) ∧
          Calls Try.prog 22 #[.slice a1 E.fs.length E.fs.length, .slice a2 E.fs.length E.fs.length] w4 fun e w5 => e = .returned (.bool true) ∧ Bd W0 B sb E S K i s a1 a2 a4 c4 w5 := by
  have hfew : E.fs.length ≤ 50 := by have := h.d.inv.few; have := h.d.room; omega
  refine (flights2_any h.d.e (by omega) h.d.inv.szE).mono ?_
  rintro e w1 ⟨a1, L1, rfl, g1, d1, b1⟩
  refine ⟨a1, rfl, (look_any (h.d.e.still b1) (by omega) h.d.inv.szE).mono ?_⟩
  rintro e w2 ⟨a, LL, rfl, -, -, b2⟩
  have b12 := bstep b1 b2
  refine ⟨⟨_, rfl⟩, (flights2_any (h.d.e.still b12) (by omega) h.d.inv.szE).mono ?_⟩
  rintro e w3 ⟨a2, L2, rfl, g2, d2, b3⟩
  have b23 := bstep b2 b3
  have sz1 := g1.szd h.d.e.fls.byt h.d.inv.szE d1
  refine ⟨a2, rfl, (apart_any (g1.still b23) (by omega) sz1).mono ?_⟩
  rintro e w4 ⟨a4, c4, L4, rfl, ap, b4⟩
  rw [d1] at ap
  have r1 := (g1.still (bstep b23 b4)).rdf
  have r2 := (g2.still b4).rdf
  rw [d1] at r1
  rw [d2] at r2
  refine ⟨a4, c4, rfl, (lists_any r1 r2 (by omega)).mono ?_⟩
  rintro e w5 ⟨rfl, b5⟩
  have b45 := bstep b4 b5
  refine ⟨rfl, body_put (w2 := w2) (w3 := w3) (L1 := L1) (L2 := L2) (L4 := L4) hi h (bstep (bstep b12 b3) b45) (g1.still (bstep b23 b45)) (fun j hj => by have := (g1.lt hj).2; have := b2.size; omega) (g2.still b45) (fun j hj => (g2.lt hj).2) ⟨by have := b12.size; omega, b3.size, b45.size⟩ d1 d2 (ap.still b5)⟩
end
end Go.Proofs.Ytnhhjelplmdloaa.Et
namespace Go.Proofs.Ytnhhjelplmdloaa.Et
open Go.RowKit Go.Maps
set_option linter.unusedVariables false
set_option linter.unusedSimpArgs false
set_option maxRecDepth 100000
section
variable {E E1 E' : En} {w w' w0 w1 w2 w3 W0 X : World} {B K m sb i nd : Nat} {S S' : St} {P : Nat → Prop}
structure Pr (W0 w : World) (B : Nat) (E : En) (nd i : Nat) : Prop where
  e : E.Ok w B (256 * i)
  inv : Inv E i
  nn : E.nn = nd
  up : E.up 0 = true
  cut : E.cut 0 1 = false
  room : E.room = 50
  last : E.last = i
  len : E.fs.length = i
  ck : E.clock = 0
  hB : B ≤ w.heap.size
  lw : Below B W0 w
theorem Pr.still (h : Pr W0 w B E nd i) (hb : Below w.heap.size w w') : Pr W0 w' B E nd i := ⟨h.e.still hb, h.inv, h.nn, h.up, h.cut, h.room, h.last, h.len, h.ck, Nat.le_trans h.hB hb.size, h.lw.trans (hb.mono h.hB)⟩
theorem post3 (h : Pr W0 w B E nd i) (hi : i < 3) (h2 : 2 ≤ nd) {q : Nat} {bs : List Int} (hX : Below w.heap.size w X) (hr : Rd X (some ⟨q, 0, none⟩) 2 2 bs) : Calls Try.prog 7 #[.pointer (some ⟨E.b, 0, none⟩), .int .i64 0, .int .i64 1, .slice (some ⟨q, 0, none⟩) 2 2] X fun e w2 => e = .returned (.tuple #[.int .i64 ((i : Int) + 1), .int .i64 0]) ∧
    Calls Try.prog 15 #[.pointer (some ⟨E.b, 0, none⟩)] w2 fun e w3 => ∃ a E1, e = .returned (.slice a (i + 1) (i + 1)) ∧ Pr W0 w3 B E1 nd (i + 1) ∧ E1.b = E.b := by
  have hx := h.still hX
  have hnn := h.nn
  have hno : (isP E ((0 : Nat) : Int) ((1 : Nat) : Int) && decide (((2 : Nat) : Int) ≤ 40000)) = true := by
    rw [isP_nat (by omega) (by omega) (by omega)]
    rfl
  refine post_go hx.e 0 ((1 : Nat) : Int) (some ⟨q, 0, none⟩) 2 2 (by omega) hno h.up _ (fun Y hY => ?_)
  have hy := hx.still hY
  have hlen := h.len
  have hroom := h.room
  have hw : wN E = (i : Int) + 1 := by rw [wN_is h.inv (by omega), h.last]
  refine (launch_ok hy.e hy.hB 0 1 (by omega) (by omega) (by omega) h.cut (some ⟨q, 0, none⟩) 2 2 bs (hr.still hY) (by omega) (by omega) (by omega)).mono ?_
  rintro e w2 ⟨rfl, g, a, c, st⟩
  have hd := h.e.dly 0 1 (by omega) (by omega)
  have hck := h.ck
  have hwr : IntKind.i64.wrap (E.clock + E.dl 0 1) = E.dl 0 1 := by rw [hck, Int.zero_add]; exact wrap_id (by omega) (by omega)
  have hx2 : Nx E (added E (nf E 0 1 2 bs g) a c) i := nx_added h.inv (by omega) _ _ _ rfl (by show 2 ≤ 40000; omega) (by show E.clock < IntKind.i64.wrap (E.clock + E.dl 0 1); rw [hwr]; omega) (by show IntKind.i64.wrap (E.clock + E.dl 0 1) ≤ _; rw [hwr]; omega) (by omega)
  have pr : Pr W0 w2 B (added E (nf E 0 1 2 bs g) a c) nd (i + 1) := ⟨st.ok.mono (by omega), hx2.inv, hnn, h.up, h.cut, hroom, by show wN E = ((i + 1 : Nat) : Int); rw [hw]; omega, by show (E.fs ++ [nf E 0 1 2 bs g]).length = i + 1; simp [hlen], hck, Nat.le_trans hy.hB st.kept.size, hy.lw.trans (st.kept.below hy.hB (fun j hj e => by have := hy.e.geOwn e; omega))⟩
  refine ⟨⟨_, _, rfl⟩, by rw [hw], ?_⟩
  have hl2 := pr.len
  refine (flights2_any pr.e (by omega) pr.inv.szE).mono ?_
  rintro e w3 ⟨a3, L, rfl, -, -, b3⟩
  rw [hl2]
  exact ⟨a3, _, rfl, pr.still b3, rfl⟩
def S0 : St := ⟨⟨none, 0, 0⟩, ⟨none, 0, 0⟩, ⟨none, 0, 0⟩, ⟨none, 0, 0⟩, 0, 0, fun _ => ⟨none, 0, 0⟩, fun _ => ⟨none, 0, 0⟩, fun _ => ⟨none, 0, 0⟩, fun _ => ⟨none, 0, 0⟩⟩
theorem nol {P : Prop} {n : Nat} (h : n < 0) : P := absurd h (Nat.not_lt_zero n)
theorem nob {P : Prop} {j : Nat} (h : (Sl.v ⟨none, 0, 0⟩).ownBlock = some j) : P := by simp [Sl.v, Value.ownBlock] at h
theorem wd0 (h : Pr W0 w B E nd 3) : Wd W0 (w.alloc (.cells #[.slice none 0 0, .slice none 0 0, .slice none 0 0, .slice none 0 0] 64)) B w.heap.size E S0 3 0 := by
  have hb : Below w.heap.size w (w.alloc (.cells #[.slice none 0 0, .slice none 0 0, .slice none 0 0, .slice none 0 0] 64)) := balloc (Below.refl _ _)
  have hx := h.still hb
  refine ⟨hx.e, hx.inv, hx.room, hx.hB, ⟨heap_alloc_new w _, h.hB, own_nil _ _, own_nil _ _, own_nil _ _, own_nil _ _, fun j hj => nob hj, fun j hj => nob hj, ⟨fun i hi => nol hi, fun i j hi => nol hi⟩, ⟨fun i hi => nol hi, fun i j hi => nol hi⟩, ⟨fun i hi => nol hi, fun i hi => nol hi, fun i j hi => nol hi⟩, ⟨fun i hi => nol hi, fun i hi => nol hi, fun i j hi => nol hi⟩⟩, rfl, rfl, rfl, rfl, Nat.zero_le _, rfl, fun j hj => nol hj, fun j hj => nol hj, fun j hj e => ?_, hx.lw⟩
  have h1 := h.e.ltOwn hj
  rcases e with e | e | e | e | e | ⟨i, hi, e⟩ | ⟨i, hi, e⟩ | ⟨i, hi, e⟩ | ⟨i, hi, e⟩
  · omega
  · exact nob e
  · exact nob e
  · exact nob e
  · exact nob e
  · exact nol hi
  · exact nol hi
  · exact nol hi
  · exact nol hi
theorem rd_two {q : Nat} {x y : Int} (h : X.heap[q]? = some (.cells #[.int .u8 x, .int .u8 y] 5 (0, 0))) (hx : 0 ≤ x ∧ x ≤ 255) (hy : 0 ≤ y ∧ y ≤ 255) : Rd X (some ⟨q, 0, none⟩) 2 2 [x, y] := by
  refine ⟨rfl, fun e => (by cases e), .inr ⟨q, 0, rfl, fun i hi => ?_⟩, fun i => ?_⟩
  · rw [Nat.zero_add, blk_cell h i]
    rcases (show i = 0 ∨ i = 1 by omega) with rfl | rfl <;> rfl
  · rcases i with _ | _ | i
    · exact hx
    · exact hy
    · simp
theorem bsU2 (x y : Int) : Try.prog.builtSlice 5 2 [(0, .int .u8 x), (1, .int .u8 y)] = some #[.int .u8 x, .int .u8 y] := by kernel_rfl
theorem bsF3 (a1 a2 a3 : Option Addr) (n1 n2 n3 c1 c2 c3 : Nat) : Try.prog.builtSlice 39 3 [(0, .slice a1 n1 c1), (1, .slice a2 n2 c2), (2, .slice a3 n3 c3)] = some #[.slice a1 n1 c1, .slice a2 n2 c2, .slice a3 n3 c3] := by kernel_rfl
end
end Go.Proofs.Ytnhhjelplmdloaa.Et
