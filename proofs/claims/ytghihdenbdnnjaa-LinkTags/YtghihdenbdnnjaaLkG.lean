import Derived.Test.YtghihdenbdnnjaaLk5
import Derived.Test.YtghihdenbdnnjaaLk9
import Derived.Test.YtghihdenbdnnjaaLkC
import Derived.Test.YtghihdenbdnnjaaLkE
namespace Go.Proofs.Ytghihdenbdnnjaa.Ln
open Go.RowKit Mb Oe
set_option linter.unusedVariables false
set_option maxRecDepth 100000
set_option linter.unusedSimpArgs false
section
variable {w w' W wr w2 : World} {B b0 b1 : Nat} {X X' Y Y' : Wr} {P P' Q Q' : Px} {E : En} {M : Mx}
theorem o_len {T : Nat} (hI : P.Inv) (hT : P.Sz T) {u : Nat} (hu : u < 2) : (P.o u).length ≤ T := by
  rcases s2 hu with rfl | rfl
  · have h := (hI 1 (by omega)).pre
    have e : (P.o 0).length = ((P.p 1).take (P.E 0).ip).length := congrArg List.length h
    rw [e, List.length_take]
    have := (hT 1 (by omega)).1
    omega
  · have h := (hI 0 (by omega)).pre
    have e : (P.o 1).length = ((P.p 0).take (P.E 1).ip).length := congrArg List.length h
    rw [e, List.length_take]
    have := (hT 0 (by omega)).1
    omega
structure Tw (w wr : World) (B b0 b1 : Nat) (P Q : Px) (X Y : Wr) : Prop where
  x : X.Ok wr w.heap.size
  y : Y.Ok wr B
  px : X.pu = P
  py : Y.pu = Q
  bx : X.b = b0
  by' : Y.b = b1
  bel : Below w.heap.size w wr
  hB : w.heap.size ≤ B
  hs : B ≤ wr.heap.size
  ap : ∀ j, X.own j → Y.own j → False
theorem Tw.stepX (h : Tw w wr B b0 b1 P Q X Y) (s : Xstep wr w2 X X' w.heap.size) (hp : X'.pu = P') : Tw w w2 B b0 b1 P' Q X' Y :=
  ⟨s.ok, h.y.keep s.kept (fun j hj hx => h.ap j hx hj), hp, h.py, s.b.trans h.bx, h.by', h.bel.trans (s.kept.below h.bel.size (fun j hj e => by have := h.x.loj e; omega)), h.hB, Nat.le_trans h.hs s.kept.size, fun j hj hy => (s.own j hj).elim (fun h1 => h.ap j h1 hy) (fun h1 => by have := h.y.lt hy; omega)⟩
theorem Tw.stepY (h : Tw w wr B b0 b1 P Q X Y) (s : Xstep wr w2 Y Y' B) (hp : Y'.pu = Q') : Tw w w2 B b0 b1 P Q' X Y' :=
  ⟨h.x.keep s.kept (fun j hj hx => h.ap j hj hx), s.ok, h.px, hp, h.bx, s.b.trans h.by', h.bel.trans (s.kept.below h.bel.size (fun j hj e => by have := h.y.loj e; have := h.hB; omega)), h.hB, Nat.le_trans h.hs s.kept.size, fun j hj hy => (s.own j hy).elim (fun h1 => h.ap j hj h1) (fun h1 => by have := h.x.lt hj; omega)⟩
theorem Tw.still (h : Tw w wr B b0 b1 P Q X Y) (hb : Below wr.heap.size wr w2) : Tw w w2 B b0 b1 P Q X Y := h.stepX (Xstep.below h.x hb) h.px
theorem Tw.first {w1 : World} (hx : X.Ok w1 w.heap.size) (px : X.pu = P) (bx : X.b = b0) (b1' : Below w.heap.size w w1) (hy : Y.Ok w2 w1.heap.size) (py : Y.pu = Q) (by' : Y.b = b1) (b2 : Below w1.heap.size w1 w2) : Tw w w2 w1.heap.size b0 b1 P Q X Y :=
  ⟨hx.still b2, hy, px, py, bx, by', bstep b1' b2, b1'.size, b2.size, fun j h1 h2 => by have := hx.lt h1; have := hy.loj h2; omega⟩
theorem same2 {u B' : Nat} (hX : X.Ok wr B) (hY : Y.Ok wr B') (hu : u < 2) (he : X.pu.o u = Y.pu.o u) (hl : (X.pu.o u).length ≤ 1000000) : ∃ oa oc pa pc ol, X.v (6 + u) = .slice oa ol oc ∧ Y.v (6 + u) = .slice pa ol pc ∧ ∀ D, Below wr.heap.size wr D → Calls Try.prog 18 #[.slice oa ol oc, .slice pa ol pc] D fun e w' => e = .returned (.bool true) ∧ Below D.heap.size D w' := by
  obtain ⟨oa, oc, hov⟩ := row_shape (hX.rowo hu)
  obtain ⟨pa, pc, hpv⟩ := row_shape (hY.rowo hu)
  have he2 : (X.o u).map Bn.bs = (Y.o u).map Bn.bs := he
  have hl2 : (X.o u).length = (Y.o u).length := by have := congrArg List.length he2; rw [List.length_map, List.length_map] at this; exact this
  have h1 := RdL.of (hX.rowo hu) (fun y hy => (hX.en y ⟨u, hu, .inr (.inl hy)⟩).1)
  have h2 := RdL.of (hY.rowo hu) (fun y hy => (hY.en y ⟨u, hu, .inr (.inl hy)⟩).1)
  have hlen : (X.o u).length ≤ 1000000 := by
    have h3 : ((X.o u).map Bn.bs).length ≤ 1000000 := hl
    rw [List.length_map] at h3
    exact h3
  refine ⟨oa, oc, pa, pc, _, hov, by rw [hl2]; exact hpv, fun D hb => ?_⟩
  have := lists_yes (h1.still hb) (h2.still hb) he2 hlen
  rw [hov, hpv, ← hl2] at this
  exact this
theorem take_foreign (h : M.Ok w B) {q : Int} (hq : M.at q = some E) (t : Tg) (u : Int) {ao : Option Addr} {n c : Nat} (ht : ¬ t = M.tag) : ∃ r : Int, (r = 1 ∨ r = 40) ∧ ∀ D, Below w.heap.size w D → Calls Try.prog 14 #[.pointer (some ⟨M.b, 0, none⟩), .int .i64 q, .agg #[.int .i64 t.e, .int .i64 t.l, .int .i64 t.i, .int .i64 t.c, .int .i64 u, .slice ao n c]] D fun e w' => e = .returned (.tuple #[.slice none 0 0, .int .i64 r]) ∧ Below D.heap.size D w' := by
  cases h1 : inR 1 4611686018427387904 u with
  | false => exact ⟨1, .inl rfl, fun D hb => take_arg1 (h.still hb) hq t u h1⟩
  | true =>
    cases h2 : inR 1 300 (n : Int) with
    | false => exact ⟨1, .inl rfl, fun D hb => take_arg2 (h.still hb) hq t u h1 h2⟩
    | true => exact ⟨40, .inr rfl, fun D hb => take_tag (h.still hb) hq t u h1 h2 ht⟩
theorem acked_foreign (h : M.Ok w B) {q : Int} (hq : M.at q = some E) (t : Tg) (u : Int) (ht : ¬ t = M.tag) : ∃ r : Int, (r = 1 ∨ r = 40) ∧ ∀ D, Below w.heap.size w D → Calls Try.prog 16 #[.pointer (some ⟨M.b, 0, none⟩), .int .i64 q, .agg #[.int .i64 t.e, .int .i64 t.l, .int .i64 t.i, .int .i64 t.c, .int .i64 u]] D fun e w' => e = .returned (.int .i64 r) ∧ Below D.heap.size D w' := by
  cases h1 : inR 0 4611686018427387904 u with
  | false => exact ⟨1, .inl rfl, fun D hb => acked_arg (h.still hb) hq t u h1⟩
  | true => exact ⟨40, .inr rfl, fun D hb => acked_tag (h.still hb) hq t u h1 ht⟩
theorem by8 : By [8] := fun i => by
  have : i = 0 ∨ 1 ≤ i := by omega
  rcases this with rfl | h
  · simp
  · simp [List.getD, List.getElem?_eq_none (show ([8] : List Int).length ≤ i by simpa using h)]
structure TwL (W0 D : World) (B b0 b1 : Nat) (P Q : Px) (L : List Nat) : Prop where
  out : ∃ X Y, Tw W0 D B b0 b1 P Q X Y ∧ ∀ k ∈ L, Bk D k [8] ∧ ¬ X.own k ∧ ¬ Y.own k
theorem TwL.still {W0 D D' : World} {L : List Nat} (h : TwL W0 D B b0 b1 P Q L) (hb : Below D.heap.size D D') : TwL W0 D' B b0 b1 P Q L := by
  obtain ⟨X, Y, h1, h2⟩ := h.out
  exact ⟨X, Y, h1.still hb, fun k hk => ⟨(h2 k hk).1.still hb, (h2 k hk).2⟩⟩
theorem TwL.alloc {W0 D : World} {L : List Nat} (h : TwL W0 D B b0 b1 P Q L) : TwL W0 (D.alloc (.cells #[.int .u8 8] 5)) B b0 b1 P Q (D.heap.size :: L) := by
  obtain ⟨X, Y, h1, h2⟩ := h.out
  have hb : Below D.heap.size D (D.alloc (.cells #[.int .u8 8] 5)) := balloc (Below.refl _ _)
  refine ⟨X, Y, h1.still hb, fun k hk => ?_⟩
  rcases List.mem_cons.1 hk with rfl | hk
  · exact ⟨heap_alloc_new _ _, fun e => by have := h1.x.lt e; omega, fun e => by have := h1.y.lt e; omega⟩
  · exact ⟨(h2 k hk).1.still hb, (h2 k hk).2⟩
structure TwO (W0 w' : World) (B b0 b1 : Nat) (P Q : Px) (L : List Nat) (e : Ending) : Prop where
  ret : e = .returned (.bool true)
  out : TwL W0 w' B b0 b1 P Q L
theorem TwL.goX {W0 D D' : World} {L : List Nat} (h : Tw W0 D B b0 b1 P Q X Y) (h2 : ∀ k ∈ L, Bk D k [8] ∧ ¬ X.own k ∧ ¬ Y.own k) (s : Xstep D D' X X' W0.heap.size) (hp : X'.pu = P') : TwL W0 D' B b0 b1 P' Q L :=
  ⟨X', Y, h.stepX s hp, fun k hk => ⟨(h2 k hk).1.keep s.kept (h2 k hk).2.1, fun e => (s.own k e).elim (h2 k hk).2.1 (fun h3 => by have := (h2 k hk).1.lt; omega), (h2 k hk).2.2⟩⟩
theorem TwL.goY {W0 D D' : World} {L : List Nat} (h : Tw W0 D B b0 b1 P Q X Y) (h2 : ∀ k ∈ L, Bk D k [8] ∧ ¬ X.own k ∧ ¬ Y.own k) (s : Xstep D D' Y Y' B) (hp : Y'.pu = Q') : TwL W0 D' B b0 b1 P Q' L :=
  ⟨X, Y', h.stepY s hp, fun k hk => ⟨(h2 k hk).1.keep s.kept (h2 k hk).2.2, (h2 k hk).2.1, fun e => (s.own k e).elim (h2 k hk).2.2 (fun h3 => by have := (h2 k hk).1.lt; omega)⟩⟩
theorem TwL.pushX {W0 D : World} {L : List Nat} (h : TwL W0 D B b0 b1 P Q L) (hI : P.Inv) (hT : P.Sz 400) {k : Nat} (hk : k ∈ L) : Calls Try.prog 8 #[.pointer (some ⟨b0, 0, none⟩), .int .i64 0, .slice (some ⟨k, 0, none⟩) 1 1] D fun e w' => TwO W0 w' B b0 b1 (P.push 0 (cutB [8])) Q L e := by
  obtain ⟨X, Y, h1, h2⟩ := h.out
  have := wpush_any h1.x (by rw [h1.px]; exact hI) (T := 400) (by rw [h1.px]; exact hT) (by omega) (s := 0) (by omega) ((h2 k hk).1.all 1 (by simp) by8) (fun _ b off e ho => by cases e; exact (h2 k hk).2.1 ho) h1.bel.size
  rw [h1.bx] at this
  refine this.mono fun e w' hx => ?_
  obtain ⟨he, X', hs, hp⟩ := hx
  exact ⟨he, TwL.goX h1 h2 hs (by rw [hp, h1.px])⟩
theorem TwL.pushY {W0 D : World} {L : List Nat} (h : TwL W0 D B b0 b1 P Q L) (hI : Q.Inv) (hT : Q.Sz 400) {k : Nat} (hk : k ∈ L) : Calls Try.prog 8 #[.pointer (some ⟨b1, 0, none⟩), .int .i64 0, .slice (some ⟨k, 0, none⟩) 1 1] D fun e w' => TwO W0 w' B b0 b1 P (Q.push 0 (cutB [8])) L e := by
  obtain ⟨X, Y, h1, h2⟩ := h.out
  have := wpush_any h1.y (by rw [h1.py]; exact hI) (T := 400) (by rw [h1.py]; exact hT) (by omega) (s := 0) (by omega) ((h2 k hk).1.all 1 (by simp) by8) (fun _ b off e ho => by cases e; exact (h2 k hk).2.2 ho) h1.hs
  rw [h1.by'] at this
  refine this.mono fun e w' hx => ?_
  obtain ⟨he, X', hs, hp⟩ := hx
  exact ⟨he, TwL.goY h1 h2 hs (by rw [hp, h1.py])⟩
theorem TwL.turnX {W0 D : World} {L : List Nat} (h : TwL W0 D B b0 b1 P Q L) (hI : P.Inv) (hT : P.Sz 401) : Calls Try.prog 21 #[.pointer (some ⟨b0, 0, none⟩)] D fun e w' => TwO W0 w' B b0 b1 P.turn Q L e := by
  obtain ⟨X, Y, h1, h2⟩ := h.out
  have := turn_any h1.x (by rw [h1.px]; exact hI) (T := 401) (by rw [h1.px]; exact hT) (by omega) (by omega) h1.bel.size
  rw [h1.bx] at this
  refine this.mono fun e w' hx => ?_
  obtain ⟨he, X', hs, hp⟩ := hx
  exact ⟨he, TwL.goX h1 h2 hs (by rw [hp, h1.px])⟩
structure TwF (W0 w' : World) (b0 b1 : Nat) (e : Ending) : Prop where
  out : e = .returned (.bool true) ∧ ∃ oa oc pa pc ol, w'.cell? ⟨b0, 7, none⟩ = some (.slice oa ol oc) ∧ w'.cell? ⟨b1, 7, none⟩ = some (.slice pa ol pc) ∧ Hid (Calls Try.prog 18 #[.slice oa ol oc, .slice pa ol pc] w' fun e w2 => e = .returned (.bool true) ∧ Below w'.heap.size w' w2) ∧ Below W0.heap.size W0 w'
theorem TwL.turnY {W0 D : World} {L : List Nat} {P0 : Px} (h : TwL W0 D B b0 b1 P0.turn P0 L) (hI : P0.Inv) (hT : P0.Sz 401) (hw : P0.win ≤ 5) : Calls Try.prog 21 #[.pointer (some ⟨b1, 0, none⟩)] D fun e w' => TwF W0 w' b0 b1 e := by
  obtain ⟨X, Y, h1, h2⟩ := h.out
  have := turn_any h1.y (by rw [h1.py]; exact hI) (T := 401) (by rw [h1.py]; exact hT) (by omega) (by omega) h1.hs
  rw [h1.by'] at this
  refine this.mono fun e w' hx => ?_
  obtain ⟨he, Y', hs, hp⟩ := hx
  have h3 := h1.stepY hs hp
  have hsz : P0.turn.Sz (401 + 2) := (show Px.Sz _ _ from by have := turns_sz (P := P0) (T := 401) hT (by omega) hw 1; exact this)
  have hl : (X.pu.o 1).length ≤ 1000000 := by rw [h3.px]; have := o_len hI.turn hsz (u := 1) (by omega); omega
  obtain ⟨oa, oc, pa, pc, ol, hov, hpv, hsl⟩ := same2 (u := 1) h3.x h3.y (by omega) (by rw [h3.px, h3.py, h1.py]) hl
  refine ⟨he, oa, oc, pa, pc, ol, ?_, ?_, hsl _ (Below.refl _ _), h3.bel⟩
  · have := h3.x.cr (i := 7) (by omega) (by omega); rw [h3.bx] at this; rw [this]; exact congrArg some hov
  · have := h3.y.cr (i := 7) (by omega) (by omega); rw [h3.by'] at this; rw [this]; exact congrArg some hpv
end
end Go.Proofs.Ytghihdenbdnnjaa.Ln
