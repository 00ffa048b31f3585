import Derived.Test.YthanifbimndhaaaM2
namespace Go.Proofs.Ythanifbimndhaaa.Ln
set_option maxHeartbeats 40000000
open Go.RowKit Mb
set_option linter.unusedVariables false
set_option maxRecDepth 100000
set_option linter.unusedSimpArgs false
structure En where
 b : Nat
 o : St
 sent : Nat
 i : St
 owed : Bool
structure Tg where
 e : Int
 l : Int
 i : Int
 c : Int
structure Mx where
 b : Nat
 br : Nat
 n : Nat
 self : Nat
 win : Nat
 room : Nat
 tag : Tg
 es : Nat -> Option En
def En.cs (E : En) : Array Value := #[.int .i64 (E.o.p : Int), E.o.ring, .int .i64 (E.sent : Int), .int .i64 (E.i.p : Int), E.i.ring, .bool E.owed]
def En.own (E : En) (j : Nat) : Prop := j = E.b ∨ E.o.own j ∨ E.i.own j
def eptr : Option En -> Value
 | some e => .pointer (some ⟨e.b, 0, none⟩)
 | none => .pointer none
def Tg.vs (t : Tg) : List Value := [.int .i64 t.e, .int .i64 t.l, .int .i64 t.i, .int .i64 t.c]
def Mx.cs (M : Mx) : Array Value := #[.int .i64 (M.self : Int), .int .i64 (M.win : Int), .int .i64 (M.room : Int), .int .i64 M.tag.e, .int .i64 M.tag.l, .int .i64 M.tag.i, .int .i64 M.tag.c, .slice (some ⟨M.br, 0, none⟩) M.n M.n]
def Mx.own (M : Mx) (j : Nat) : Prop := j = M.b ∨ j = M.br ∨ ∃ q e, M.es q = some e /\ e.own j
def Mx.at (M : Mx) (q : Int) : Option En := if 0 ≤ q /\ q < (M.n : Int) then M.es q.toNat else none
def Mx.put (M : Mx) (q : Nat) (e : En) : Mx := { M with es := upd M.es q (some e) }
structure Ep where
 op : Nat
 sent : Nat
 ob : Nat -> Option (List Int)
 ip : Nat
 ib : Nat -> Option (List Int)
 owed : Bool
def En.pu (E : En) : Ep := ⟨E.o.p, E.sent, fun n => (E.o.f n).map Bd.bs, E.i.p, fun n => (E.i.f n).map Bd.bs, E.owed⟩
section
variable {w w' W : World} {B win room : Nat} {S S' : St} {E E' : En} {M M' : Mx}
structure En.Ok (E : En) (w : World) (B win room : Nat) : Prop where
 blk : w.heap[E.b]? = some (.cells E.cs 100 (0, 0))
 lo : B ≤ E.b
 oo : E.o.Ok w B
 ii : E.i.Ok w B
 ap : ∀ j, E.o.own j -> E.i.own j -> False
 s1 : E.o.p ≤ E.sent
 s2 : E.sent ≤ E.o.p + room
 s62 : E.sent ≤ 4611686018427387904
 all : ∀ n, E.o.p < n -> n ≤ E.sent -> (E.o.f n).isSome = true
 top : ∀ n b, E.o.f n = some b -> n ≤ E.sent
 iw : ∀ n b, E.i.f n = some b -> n ≤ E.i.p + win /\ n ≤ 4611686018427387904
 i1 : E.i.f (E.i.p + 1) = none
structure Mx.Ok (M : Mx) (w : World) (B : Nat) : Prop where
 blk : w.heap[M.b]? = some (.cells M.cs 103 (0, 0))
 row : Fb w M.br 92 M.n (fun q => eptr (M.es q))
 el : ∀ q e, M.es q = some e -> e.Ok w B M.win M.room
 ap : ∀ p q e f, p ≠ q -> M.es p = some e -> M.es q = some f -> ∀ j, e.own j -> f.own j -> False
 far : ∀ q, M.n ≤ q -> M.es q = none
 n1 : 1 ≤ M.n /\ M.n ≤ 16 /\ M.self < M.n
 w1 : 1 ≤ M.win /\ M.win ≤ M.room /\ M.room ≤ 20000
 lo : B ≤ M.b /\ B ≤ M.br
theorem En.Ok.lt (h : E.Ok w B win room) {j : Nat} (hj : E.own j) : j < w.heap.size := by
 rcases hj with rfl | hj | hj
 ·exact lt_heap h.blk
 ·exact h.oo.lt hj
 ·exact h.ii.lt hj
theorem En.Ok.loj (h : E.Ok w B win room) {j : Nat} (hj : E.own j) : B ≤ j := by
 rcases hj with rfl | hj | hj
 ·exact h.lo
 ·exact h.oo.lo hj
 ·exact h.ii.lo hj
theorem En.Ok.keep {P : Nat -> Prop} (h : E.Ok w B win room) (k : Kept w w' P) (hp : ∀ j, E.own j -> ¬ P j) : E.Ok w' B win room :=
 { h with blk := k.obj h.blk (hp _ (.inl rfl)), oo := h.oo.keep k fun j hj => hp j (.inr (.inl hj)), ii := h.ii.keep k fun j hj => hp j (.inr (.inr hj)) }
theorem En.Ok.still (h : E.Ok w B win room) (hb : Below w.heap.size w w') : E.Ok w' B win room := h.keep (Kept.ofBelow hb (fun _ => False)) fun _ _ => id
theorem En.Ok.ne_o (h : E.Ok w B win room) : ¬ E.o.own E.b := h.oo.ne_t h.blk (by decide) (by decide)
theorem En.Ok.ne_i (h : E.Ok w B win room) : ¬ E.i.own E.b := h.ii.ne_t h.blk (by decide) (by decide)
theorem En.Ok.c (h : E.Ok w B win room) (i : Nat) {v : Value} (e : E.cs[i]? = some v) : w.cell? ⟨E.b, i, none⟩ = some v := (bC h.blk i).trans e
theorem En.Ok.ne_t (h : E.Ok w B win room) {eb t : Nat} {cs : Array Value} (hE : w.heap[eb]? = some (.cells cs t (0, 0))) (h1 : t ≠ 127) (h2 : t ≠ 5) (h3 : t ≠ 100) : ¬ E.own eb := by
 rintro (rfl | hj | hj)
 ·exact blk_ne h.blk hE (fun e => h3 e.symm) rfl
 ·exact h.oo.ne_t hE h1 h2 hj
 ·exact h.ii.ne_t hE h1 h2 hj
theorem Mx.Ok.lt (h : M.Ok w B) {j : Nat} (hj : M.own j) : j < w.heap.size := by
 rcases hj with rfl | rfl | ⟨q, e, he, hj⟩
 ·exact lt_heap h.blk
 ·exact h.row.lt
 ·exact (h.el q e he).lt hj
theorem Mx.Ok.loj (h : M.Ok w B) {j : Nat} (hj : M.own j) : B ≤ j := by
 rcases hj with rfl | rfl | ⟨q, e, he, hj⟩
 ·exact h.lo.1
 ·exact h.lo.2
 ·exact (h.el q e he).loj hj
theorem Mx.Ok.keep {P : Nat -> Prop} (h : M.Ok w B) (k : Kept w w' P) (hp : ∀ j, M.own j -> ¬ P j) : M.Ok w' B :=
 { h with blk := k.obj h.blk (hp _ (.inl rfl)), row := h.row.keep k (hp _ (.inr (.inl rfl))), el := fun q e he => (h.el q e he).keep k fun j hj => hp j (.inr (.inr ⟨q, e, he, hj⟩)) }
theorem Mx.Ok.still (h : M.Ok w B) (hb : Below w.heap.size w w') : M.Ok w' B := h.keep (Kept.ofBelow hb (fun _ => False)) fun _ _ => id
theorem Mx.Ok.c (h : M.Ok w B) (i : Nat) {v : Value} (e : M.cs[i]? = some v) : w.cell? ⟨M.b, i, none⟩ = some v := (bC h.blk i).trans e
theorem Mx.Ok.ne_e (h : M.Ok w B) {q : Nat} {e : En} (he : M.es q = some e) : ¬ e.own M.b /\ ¬ e.own M.br := by
 obtain ⟨C, h1, _⟩ := h.row
 exact ⟨(h.el q e he).ne_t h.blk (by decide) (by decide) (by decide), (h.el q e he).ne_t h1 (by decide) (by decide) (by decide)⟩
structure Mstep (w w' : World) (M M' : Mx) (B : Nat) : Prop where
 ok : M'.Ok w' B
 kept : Kept w w' M.own
 own : ∀ j, M'.own j -> M.own j ∨ w.heap.size ≤ j
theorem Mx.Ok.put (h : M.Ok w B) {q : Nat} {e e' : En} (hq : M.es q = some e) (hb : e'.b = e.b) (hok : e'.Ok w' B M.win M.room) (k : Kept w w' e.own) (hn : ∀ j, e'.own j -> e.own j ∨ w.heap.size ≤ j) : Mstep w w' M (M.put q e') B := by
 have hqn : q < M.n := by
  rcases Nat.lt_or_ge q M.n with h1 | h1
  ·exact h1
  ·rw [h.far q h1] at hq; cases hq
 have hne := h.ne_e hq
 refine ⟨⟨k.obj h.blk hne.1, (h.row.keep k hne.2).congr fun p hp => ?_, fun p f hf => ?_, fun p r f g hpr hf hg j hj hk => ?_, fun p hp => ?_, h.n1, h.w1, h.lo⟩, ?_, ?_⟩
 ·show eptr (M.es p) = eptr (upd M.es q (some e') p)
  by_cases e1 : p = q
  ·subst e1; rw [upd_same, hq]; simp [eptr, hb]
  ·rw [upd_ne _ _ e1]
 ·by_cases e1 : p = q
  ·subst e1; simp only [Mx.put, upd_same, Option.some.injEq] at hf; subst hf; exact hok
  ·simp only [Mx.put, upd_ne _ _ e1] at hf
   exact (h.el p f hf).keep k fun j hj hj2 => h.ap p q f e e1 hf hq j hj hj2
 ·by_cases e1 : p = q
  ·subst e1
   simp only [Mx.put, upd_same, Option.some.injEq, upd_ne _ _ (Ne.symm hpr)] at hf hg
   subst hf
   rcases hn j hj with h1 | h1
   ·exact h.ap p r e g hpr hq hg j h1 hk
   ·have := (h.el r g hg).lt hk; omega
  ·by_cases e2 : r = q
   ·subst e2
    simp only [Mx.put, upd_same, Option.some.injEq, upd_ne _ _ e1] at hf hg
    subst hg
    rcases hn j hk with h1 | h1
    ·exact h.ap p r f e hpr hf hq j hj h1
    ·have := (h.el p f hf).lt hj; omega
   ·simp only [Mx.put, upd_ne _ _ e1, upd_ne _ _ e2] at hf hg
    exact h.ap p r f g hpr hf hg j hj hk
 ·have hp' : M.n ≤ p := hp
  simp only [Mx.put, upd_ne _ _ (show p ≠ q by omega)]
  exact h.far p hp'
 ·exact k.mono fun j _ hj => .inr (.inr ⟨q, e, hq, hj⟩)
 ·rintro j (rfl | rfl | ⟨p, f, hf, hj⟩)
  ·exact .inl (.inl rfl)
  ·exact .inl (.inr (.inl rfl))
  ·by_cases e1 : p = q
   ·subst e1
    simp only [Mx.put, upd_same, Option.some.injEq] at hf
    subst hf
    exact (hn j hj).imp (fun h1 => .inr (.inr ⟨p, e, hq, h1⟩)) id
   ·simp only [Mx.put, upd_ne _ _ e1] at hf
    exact .inl (.inr (.inr ⟨p, f, hf, hj⟩))
theorem at_es {q : Int} {e : En} (hq : M.at q = some e) : ∃ k : Nat, q = (k : Int) /\ k < M.n /\ M.es k = some e := by
 unfold Mx.at at hq
 by_cases h1 : 0 ≤ q /\ q < (M.n : Int)
 ·rw [if_pos h1] at hq
  exact ⟨q.toNat, by omega, by omega, hq⟩
 ·rw [if_neg h1] at hq; cases hq
theorem peer_any (h : M.Ok w B) (q : Int) : Calls Try.prog 60 #[.pointer (some ⟨M.b, 0, none⟩), .int .i64 q] w fun e w' => e = .returned (eptr (M.at q)) /\ w = w' := by
 have c7 : w.cell? ⟨M.b, 7, none⟩ = some (.slice (some ⟨M.br, 0, none⟩) M.n M.n) := h.c 7 rfl
 have hn := h.n1
 have HW : Hid (Calls Try.prog 66 #[.int .i64 q, .int .i64 0, .int .i64 ((M.n : Int) - 1)] w fun e w' => e = .returned (.bool (inR 0 ((M.n : Int) - 1) q)) /\ w = w') := within_any q 0 _
 by_cases hq : 0 ≤ q /\ q < (M.n : Int)
 ·rw [inR_t hq.1 (by omega)] at HW
  obtain ⟨k, rfl⟩ : ∃ k : Nat, q = k := ⟨q.toNat, by omega⟩
  have cr : w.cell? ⟨M.br, k, none⟩ = some (eptr (M.es k)) := h.row.cell k (by omega)
  have e1 : M.at (k : Int) = M.es k := by unfold Mx.at; rw [if_pos hq, Int.toNat_natCast]
  rw [e1]
  obtain ⟨pv, hpv⟩ : ∃ pv, eptr (M.es k) = .pointer pv := by cases M.es k <;> exact ⟨_, rfl⟩
  rw [hpv] at cr ⊢
  clear h e1 hpv
  have i1 : (0 : Int) ≤ (k : Int) := hq.1
  have i2 : (k : Int) < (M.n : Int) := hq.2
  clear hq
  go_enter Try.func60, Try.ntmps60
  go_wp2_with (first | (go_at_call 66; refine HW.out.mono ?_; rintro e w' ⟨rfl, rfl⟩) | fail)
  go_ret
  exact ⟨rfl, rfl⟩
 ·rw [inR_f (by omega)] at HW
  have e1 : M.at q = none := by unfold Mx.at; rw [if_neg hq]
  rw [e1]
  clear h e1 hq
  go_enter Try.func60, Try.ntmps60
  go_wp2_with (first | (go_at_call 66; refine HW.out.mono ?_; rintro e w' ⟨rfl, rfl⟩) | fail)
  go_ret
  exact ⟨rfl, rfl⟩
theorem waiting_any (h : E.Ok w B win room) : Calls Try.prog 70 #[.pointer (some ⟨E.b, 0, none⟩)] w fun e w' => e = .returned (.int .i64 ((E.sent : Int) - (E.o.p : Int))) /\ Below w.heap.size w w' := by
 have c0 : w.cell? ⟨E.b, 0, none⟩ = some (.int .i64 (E.o.p : Int)) := h.c 0 rfl
 have c2 : w.cell? ⟨E.b, 2, none⟩ = some (.int .i64 (E.sent : Int)) := h.c 2 rfl
 have h1 := h.s1
 have h2 := h.s62
 clear h
 go_enter Try.func70, Try.ntmps70
 go_wp2
 go_quiet (fail)
 all_goals (go_wp2; go_ret; exact ⟨rfl, by repeat (first | exact Below.refl _ _ | apply below_drewN | apply Below.drew)⟩)
theorem got_no (h : M.Ok w B) {q : Int} (hq : M.at q = none) : Calls Try.prog 50 #[.pointer (some ⟨M.b, 0, none⟩), .int .i64 q] w fun e w' => e = .returned (.int .i64 0) /\ w = w' := by
 have HP : Hid (Calls Try.prog 60 #[.pointer (some ⟨M.b, 0, none⟩), .int .i64 q] w fun e w' => e = .returned (.pointer none) /\ w = w') := (show Calls _ _ _ _ _ from by have := peer_any h q; rw [hq] at this; exact this)
 clear h hq
 go_enter Try.func50, Try.ntmps50
 go_wp2_with (first | (go_at_call 60; refine HP.out.mono ?_; rintro e w' ⟨rfl, rfl⟩) | fail)
 go_ret
 exact ⟨rfl, rfl⟩
theorem got_yes (h : M.Ok w B) {q : Int} (hq : M.at q = some E) : Calls Try.prog 50 #[.pointer (some ⟨M.b, 0, none⟩), .int .i64 q] w fun e w' => e = .returned (.int .i64 (E.i.p : Int)) /\ w = w' := by
 have HP : Hid (Calls Try.prog 60 #[.pointer (some ⟨M.b, 0, none⟩), .int .i64 q] w fun e w' => e = .returned (.pointer (some ⟨E.b, 0, none⟩)) /\ w = w') := (show Calls _ _ _ _ _ from by have := peer_any h q; rw [hq] at this; exact this)
 obtain ⟨k, rfl, hk, he⟩ := at_es hq
 have hE := h.el k E he
 have c0 : w.cell? ⟨E.b, 3, none⟩ = some (.int .i64 (E.i.p : Int)) := hE.c 3 rfl
 clear h hq hE
 go_enter Try.func50, Try.ntmps50
 go_wp2_with (first | (go_at_call 60; refine HP.out.mono ?_; rintro e w' ⟨rfl, rfl⟩) | fail)
 go_ret
 exact ⟨rfl, rfl⟩
theorem sent_no (h : M.Ok w B) {q : Int} (hq : M.at q = none) : Calls Try.prog 45 #[.pointer (some ⟨M.b, 0, none⟩), .int .i64 q] w fun e w' => e = .returned (.int .i64 0) /\ w = w' := by
 have HP : Hid (Calls Try.prog 60 #[.pointer (some ⟨M.b, 0, none⟩), .int .i64 q] w fun e w' => e = .returned (.pointer none) /\ w = w') := (show Calls _ _ _ _ _ from by have := peer_any h q; rw [hq] at this; exact this)
 clear h hq
 go_enter Try.func45, Try.ntmps45
 go_wp2_with (first | (go_at_call 60; refine HP.out.mono ?_; rintro e w' ⟨rfl, rfl⟩) | fail)
 go_ret
 exact ⟨rfl, rfl⟩
theorem sent_yes (h : M.Ok w B) {q : Int} (hq : M.at q = some E) : Calls Try.prog 45 #[.pointer (some ⟨M.b, 0, none⟩), .int .i64 q] w fun e w' => e = .returned (.int .i64 (E.sent : Int)) /\ w = w' := by
 have HP : Hid (Calls Try.prog 60 #[.pointer (some ⟨M.b, 0, none⟩), .int .i64 q] w fun e w' => e = .returned (.pointer (some ⟨E.b, 0, none⟩)) /\ w = w') := (show Calls _ _ _ _ _ from by have := peer_any h q; rw [hq] at this; exact this)
 obtain ⟨k, rfl, hk, he⟩ := at_es hq
 have hE := h.el k E he
 have c0 : w.cell? ⟨E.b, 2, none⟩ = some (.int .i64 (E.sent : Int)) := hE.c 2 rfl
 clear h hq hE
 go_enter Try.func45, Try.ntmps45
 go_wp2_with (first | (go_at_call 60; refine HP.out.mono ?_; rintro e w' ⟨rfl, rfl⟩) | fail)
 go_ret
 exact ⟨rfl, rfl⟩
theorem wait_no (h : M.Ok w B) {q : Int} (hq : M.at q = none) : Calls Try.prog 47 #[.pointer (some ⟨M.b, 0, none⟩), .int .i64 q] w fun e w' => e = .returned (.int .i64 0) /\ w = w' := by
 have HP : Hid (Calls Try.prog 60 #[.pointer (some ⟨M.b, 0, none⟩), .int .i64 q] w fun e w' => e = .returned (.pointer none) /\ w = w') := (show Calls _ _ _ _ _ from by have := peer_any h q; rw [hq] at this; exact this)
 clear h hq
 go_enter Try.func47, Try.ntmps47
 go_wp2_with (first | (go_at_call 60; refine HP.out.mono ?_; rintro e w' ⟨rfl, rfl⟩) | fail)
 go_ret
 exact ⟨rfl, rfl⟩
theorem wait_yes (h : M.Ok w B) {q : Int} (hq : M.at q = some E) : Calls Try.prog 47 #[.pointer (some ⟨M.b, 0, none⟩), .int .i64 q] w fun e w' => e = .returned (.int .i64 ((E.sent : Int) - (E.o.p : Int))) /\ Below w.heap.size w w' := by
 have HP : Hid (Calls Try.prog 60 #[.pointer (some ⟨M.b, 0, none⟩), .int .i64 q] w fun e w' => e = .returned (.pointer (some ⟨E.b, 0, none⟩)) /\ w = w') := (show Calls _ _ _ _ _ from by have := peer_any h q; rw [hq] at this; exact this)
 obtain ⟨k, rfl, hk, he⟩ := at_es hq
 have hE := h.el k E he
 have HW : Hid (Calls Try.prog 70 #[.pointer (some ⟨E.b, 0, none⟩)] w fun e w' => e = .returned (.int .i64 ((E.sent : Int) - (E.o.p : Int))) /\ Below w.heap.size w w') := waiting_any hE
 clear h hq hE
 go_enter Try.func47, Try.ntmps47
 go_wp2_with (first | (go_at_call 60; refine HP.out.mono ?_; rintro e w' ⟨rfl, rfl⟩) | (go_at_call 70; refine HW.out.mono ?_; rintro e w2 ⟨rfl, hb2⟩) | fail)
 go_ret
 exact ⟨rfl, hb2⟩
theorem room_no (h : M.Ok w B) {q : Int} (hq : M.at q = none) : Calls Try.prog 43 #[.pointer (some ⟨M.b, 0, none⟩), .int .i64 q] w fun e w' => e = .returned (.int .i64 0) /\ w = w' := by
 have HP : Hid (Calls Try.prog 60 #[.pointer (some ⟨M.b, 0, none⟩), .int .i64 q] w fun e w' => e = .returned (.pointer none) /\ w = w') := (show Calls _ _ _ _ _ from by have := peer_any h q; rw [hq] at this; exact this)
 clear h hq
 go_enter Try.func43, Try.ntmps43
 go_wp2_with (first | (go_at_call 60; refine HP.out.mono ?_; rintro e w' ⟨rfl, rfl⟩) | fail)
 go_ret
 exact ⟨rfl, rfl⟩
theorem room_yes (h : M.Ok w B) {q : Int} (hq : M.at q = some E) : Calls Try.prog 43 #[.pointer (some ⟨M.b, 0, none⟩), .int .i64 q] w fun e w' => e = .returned (.int .i64 ((M.room : Int) - ((E.sent : Int) - (E.o.p : Int)))) /\ Below w.heap.size w w' := by
 have HP : Hid (Calls Try.prog 60 #[.pointer (some ⟨M.b, 0, none⟩), .int .i64 q] w fun e w' => e = .returned (.pointer (some ⟨E.b, 0, none⟩)) /\ w = w') := (show Calls _ _ _ _ _ from by have := peer_any h q; rw [hq] at this; exact this)
 obtain ⟨k, rfl, hk, he⟩ := at_es hq
 have hE := h.el k E he
 have HW : Hid (∀ w1, Below w.heap.size w w1 -> Calls Try.prog 70 #[.pointer (some ⟨E.b, 0, none⟩)] w1 fun e w' => e = .returned (.int .i64 ((E.sent : Int) - (E.o.p : Int))) /\ Below w1.heap.size w1 w') := fun w1 hb => waiting_any (hE.still hb)
 have c2 : w.cell? ⟨M.b, 2, none⟩ = some (.int .i64 (M.room : Int)) := h.c 2 rfl
 have h1 := hE.s1
 have h2 := hE.s2
 have h3 := h.w1
 have h4 := hE.s62
 clear h hq hE
 go_enter Try.func43, Try.ntmps43
 go_wp2_with (first | (go_at_call 60; refine HP.out.mono ?_; rintro e w' ⟨rfl, rfl⟩) | fail)
 refine wp_region_held_drew (S := (fun w' => w'.cell? ⟨M.b, 2, none⟩ = some (.int .i64 (M.room : Int)) /\ Below w.heap.size w w')) (by kernel_rfl) ⟨bA (Below.refl _ _).drew c2, (Below.refl _ _).drew⟩ (fun hH => ?_)
 simp only [Act.put, lA, lC, lN, zA]
 refine wG 0 (.pointer (some ⟨M.b, 0, none⟩)) rfl hH ?_
 simp only [aP, gA, gZ, gC, sA, sZ, sC]
 refine wG 1 (.pointer (some ⟨M.b, 0, none⟩)) rfl hH ?_
 simp only [aP, gA, gZ, gC, sA, sZ, sC]
 refine wG 2 (.pointer (some ⟨M.b, 2, none⟩)) rfl hH ?_
 simp only [aP, gA, gZ, gC, sA, sZ, sC]
 refine wL 3 (.int .i64 (M.room : Int)) rfl hH ?_
 simp only [aP, gA, gZ, gC, sA, sZ, sC]
 refine wG 4 (.pointer (some ⟨E.b, 0, none⟩)) rfl hH ?_
 simp only [aP, gA, gZ, gC, sA, sZ, sC]
 refine rY 5 rfl fun K hK => ?_
 go_simp
 refine (HW.out _ (Below.refl _ _).drew).mono ?_
 rintro e w2 ⟨rfl, hb2⟩
 refine hK.out _ _ ⟨bA hb2 (bA (Below.refl _ _).drew c2), (Below.trans (Below.refl _ _).drew (hb2.mono (by simp)))⟩ (fun hH => ?_)
 clear hK K
 refine wX 6 (.int .i64 ((M.room : Int) - ((E.sent : Int) - (E.o.p : Int)))) rfl (Or.inl ⟨by rfl, fun w' hS => by (go_simp; exact wrap_id (by omega) (by omega))⟩) hH ?_
 simp only [aP, gA, gZ, gC, sA, sZ, sC]
 refine wG 7 (.int .i64 ((M.room : Int) - ((E.sent : Int) - (E.o.p : Int)))) rfl hH ?_
 simp only [aP, gA, gZ, gC, sA, sZ, sC]
 refine wpAnyH_done (by kernel_rfl) ?_ _
 clear hH
 go_wp2
 go_ret
 exact ⟨rfl, (Below.trans (Below.refl _ _).drew (hb2.mono (by simp)))⟩
end
section
variable {w w' W : World} {B win room : Nat} {S S' : St} {E E' : En} {M M' : Mx}
theorem part_i (xs : List Int) (i : Nat) (h : i < xs.length) : (part 3 (ints xs).toArray i).run Try.prog w = .ok (.int .i64 (xs.getD i 0)) w := by
 have hagg : (isAgg 3).run Try.prog w = .ok false w := by
  unfold isAgg
  rw [Sem.run_bind, run_underlying Try.underlying3 w]
  rfl
 unfold part
 simp only [Sem.run_bind, hagg, Result.andThen_ok, Bool.false_eq_true, if_false, List.getElem?_toArray, ints_at xs i h]
 rfl
def eqF (d : Nat) (xs ys : Array Value) : List (String × TypeId × Nat) -> Sem Bool
 | [] => pure true
 | (n, t, o) :: fs =>
  if n ≠ "_" then do
   let a <- part t xs o
   let b <- part t ys o
   let r <- Op.equalIn d t a b
   if (!r) = true then pure false else eqF d xs ys fs
  else eqF d xs ys fs
theorem eqF_eq (d : Nat) (xs ys : Array Value) : ∀ fs : List Field, Op.eqFields d xs ys fs = eqF d xs ys (fs.map fun f => (f.name, f.type, f.offset))
 | [] => rfl
 | f :: fs => by simp only [Op.eqFields, List.map_cons, eqF, eqF_eq d xs ys fs]
theorem fields_id : (Try.prog.fieldsOf 39).toList.map (fun f => (f.name, f.type, f.offset)) = [("Epoch", 3, 0), ("Lead", 3, 1), ("Inc", 3, 2), ("Cid", 3, 3)] := by kernel_rfl
theorem under_id : Try.prog.underlying 39 = some (.struct (Try.prog.fieldsOf 39)) := by
 unfold Program.fieldsOf
 rw [Try.underlying39]
theorem stood_id : Try.prog.stoodInHeld 39 = false := by kernel_rfl
theorem guard_id : Try.prog.eqGuardType Try.prog.depth 39 = false := by kernel_rfl
theorem eq_id4 (d : Nat) (xs ys : List Int) (hx : xs.length = 4) (hy : ys.length = 4) : (Op.equalIn (d + 2) 39 (.agg (ints xs).toArray) (.agg (ints ys).toArray)).run Try.prog w = .ok (decide (xs = ys)) w := by
 rw [run_equalIn_struct w (d + 1) 39 _ _ under_id stood_id, eqF_eq, fields_id]
 simp only [eqF, ne_eq, reduceCtorEq, String.reduceEq, not_false_eq_true, if_true, Sem.run_bind, Sem.run_ite, Sem.run_pure, part_i xs 0 (by omega), part_i ys 0 (by omega), part_i xs 1 (by omega), part_i ys 1 (by omega), part_i xs 2 (by omega), part_i ys 2 (by omega), part_i xs 3 (by omega), part_i ys 3 (by omega), Result.andThen_ok, run_equalIn_int w d 3 .i64 .i64 _ _ Try.underlying3]
 have e : decide (xs = ys) = (xs.getD 0 0 == ys.getD 0 0 && xs.getD 1 0 == ys.getD 1 0 && xs.getD 2 0 == ys.getD 2 0 && xs.getD 3 0 == ys.getD 3 0) := by
  match xs, ys, hx, hy with
  | [a, b, c, d], [e, f, g, h], _, _ =>
   rw [Bool.eq_iff_iff]
   simp [and_assoc]
 rw [e]
 cases xs.getD 0 0 == ys.getD 0 0 <;> cases xs.getD 1 0 == ys.getD 1 0 <;> cases xs.getD 2 0 == ys.getD 2 0 <;> cases xs.getD 3 0 == ys.getD 3 0 <;> rfl
deriving instance DecidableEq for Tg
theorem eq_tag (s t : Tg) : (Op.equalIn 10000 39 (.agg s.vs.toArray) (.agg t.vs.toArray)).run Try.prog w = .ok (decide (s = t)) w := by
 have h := eq_id4 (w := w) 9998 [s.e, s.l, s.i, s.c] [t.e, t.l, t.i, t.c] rfl rfl
 have e : decide ([s.e, s.l, s.i, s.c] = [t.e, t.l, t.i, t.c]) = decide (s = t) := by
  obtain ⟨a1, a2, a3, a4⟩ := s
  obtain ⟨b1, b2, b3, b4⟩ := t
  rw [Bool.eq_iff_iff]
  simp
 rw [e] at h
 exact h
theorem arr_upd {cs cs' cs2 : Array Value} {k : Nat} {v : Value} (h1 : cs'[k]? = some v) (h2 : ∀ i, i ≠ k -> cs'[i]? = cs[i]?) (h3 : cs2[k]? = some v) (h4 : ∀ i, i ≠ k -> cs2[i]? = cs[i]?) : cs' = cs2 := by
 apply Array.ext_getElem?
 intro i
 by_cases e : i = k
 ·rw [e, h1, h3]
 ·rw [h2 i e, h4 i e]
def Ep.push (P : Ep) (bs : List Int) : Ep := { P with sent := P.sent + 1, ob := upd P.ob (P.sent + 1) (some bs) }
def Ep.acked (P : Ep) (u : Nat) : Ep := { P with op := max P.op u, ob := fun n => if n ≤ u then none else P.ob n }
def takeP (f : Nat -> Option (List Int)) : Nat -> Nat -> List (List Int)
 | _, 0 => []
 | p, m + 1 => match f (p + 1) with
  | some b => b :: takeP f (p + 1) m
  | none => []
theorem takeN_P (f : Nat -> Option Bd) : ∀ m p, (takeN f p m).map Bd.bs = takeP (fun n => (f n).map Bd.bs) p m
 | 0, p => rfl
 | m + 1, p => by
   cases e : f (p + 1) with
   | none => simp [takeN, takeP, e]
   | some b => simp [takeN, takeP, e, takeN_P f m (p + 1)]
def Ep.tookO (P : Ep) (n : Nat) (bs : List Int) (win : Nat) : List (List Int) := takeP (upd P.ib n (some bs)) P.ip win
def Ep.took (P : Ep) (n : Nat) (bs : List Int) (win : Nat) : Ep := { P with owed := true, ip := P.ip + (P.tookO n bs win).length, ib := fun m => if m ≤ P.ip + (P.tookO n bs win).length then none else upd P.ib n (some bs) m }
theorem map_upd (f : Nat -> Option Bd) (n : Nat) (b : Bd) : (fun m => (upd f n (some b) m).map Bd.bs) = upd (fun m => (f m).map Bd.bs) n (some b.bs) := by
 funext m
 by_cases e : m = n
 ·rw [e, upd_same, upd_same]; rfl
 ·rw [upd_ne _ _ e, upd_ne _ _ e]
structure Estep (w w' : World) (B win room : Nat) (E E' : En) : Prop where
 b : E'.b = E.b
 ok : E'.Ok w' B win room
 kept : Kept w w' E.own
 own : ∀ j, E'.own j -> E.own j ∨ w.heap.size ≤ j
theorem Estep.to {q : Nat} (h : M.Ok w B) (hq : M.es q = some E) (s : Estep w w' B M.win M.room E E') : Mstep w w' M (M.put q E') B := h.put hq s.b s.ok s.kept s.own
theorem ends_byte (E : En) (i : Nat) (x : Int) : E.cs[i]? ≠ some (.int .u8 x) := by
 rcases i with _ | _ | _ | _ | _ | _ | i
 ·simp [En.cs]
 ·simp [En.cs, St.ring]
 ·simp [En.cs]
 ·simp [En.cs]
 ·simp [En.cs, St.ring]
 ·simp [En.cs]
 ·simp [En.cs]
theorem push_fin {w2 V' w3 w4 : World} {bs : List Int} (h : E.Ok w B win room) (hroom : room ≤ 20000) (hs : E.sent < E.o.p + room) (h62 : E.sent + 1 ≤ 4611686018427387904) (hB : B ≤ w.heap.size) (hb2 : Below w.heap.size w w2) (hV : Below (w2.setCell ⟨E.b, 2, none⟩ (.int .i64 ((E.sent : Int) + 1))).heap.size (w2.setCell ⟨E.b, 2, none⟩ (.int .i64 ((E.sent : Int) + 1))) V') (hb3 : Below V'.heap.size V' w3) (hl1 : 0 < bs.length) (hl2 : bs.length ≤ 300) (hby : By bs) (hbk : Bk w3 V'.heap.size bs) :
  ({ E with sent := E.sent + 1 } : En).cs[0]? = some (.int .i64 (E.o.p : Int)) /\ E.o.Ok w3 B /\ B ≤ w3.heap.size /\ w3.heap[E.b]? = some (.cells ({ E with sent := E.sent + 1 } : En).cs 100 (0, 0)) /\ Body w3 B ⟨V'.heap.size, bs⟩ /\ ¬ E.o.own V'.heap.size /\
  (PutO w3 w4 B E.o E.b 0 (E.sent + 1) ⟨V'.heap.size, bs⟩ ({ E with sent := E.sent + 1 } : En).cs -> ∃ E', Estep w w4 B win room E E' /\ E'.pu = E.pu.push bs) := by
 have h2 := h.still hb2
 have kV : Kept w2 (w2.setCell ⟨E.b, 2, none⟩ (.int .i64 ((E.sent : Int) + 1))) (fun j => j = E.b) := kset _ _ _ _ rfl
 have hsz : (w2.setCell ⟨E.b, 2, none⟩ (.int .i64 ((E.sent : Int) + 1))).heap.size = w2.heap.size := by simp
 have hbV : (w2.setCell ⟨E.b, 2, none⟩ (.int .i64 ((E.sent : Int) + 1))).heap[E.b]? = some (.cells ({ E with sent := E.sent + 1 } : En).cs 100 (0, 0)) := blk_set h2.blk (by simp [En.cs])
 have k3 : Kept (w2.setCell ⟨E.b, 2, none⟩ (.int .i64 ((E.sent : Int) + 1))) w3 (fun _ => False) := (Kept.ofBelow hV _).trans (Kept.ofBelow hb3 _)
 have hE3 := k3.obj hbV id
 have ho : E.o.Ok w3 B := (h2.oo.keep kV (fun j hj e => h2.ne_o (by rw [<- e]; exact hj))).keep k3 fun _ _ => id
 have hi : E.i.Ok w3 B := (h2.ii.keep kV (fun j hj e => h2.ne_i (by rw [<- e]; exact hj))).keep k3 fun _ _ => id
 have hVs : w2.heap.size ≤ V'.heap.size := by rw [<- hsz]; exact hV.size
 have hw2 := hb2.size
 have hno : ∀ j, E.own j -> j < V'.heap.size := fun j hj => by have := h.lt hj; omega
 refine ⟨rfl, ho, by have := hb3.size; omega, hE3, ⟨hbk, hby, hl1, hl2, by show B ≤ V'.heap.size; omega⟩, fun hj => by have := hno _ (.inr (.inl hj)); omega, ?_⟩
 rintro ⟨⟨N, g, cs', hok, hN, hnN, hg, hblk, hsz', hr, hrest, hk4⟩⟩
 have hV3 : V'.heap.size < w3.heap.size := hbk.lt
 have hcs : cs' = ({ E with o := { p := E.o.p, L := N, rb := g, f := upd E.o.f (E.sent + 1) (some ⟨V'.heap.size, bs⟩) }, sent := E.sent + 1 } : En).cs := arr_upd hr hrest rfl (fun i hi => by rcases i with _ | _ | _ | _ | _ | _ | i <;> first | rfl | exact absurd rfl hi)
 subst hcs
 have hno2 : ∀ j, ({ p := E.o.p, L := N, rb := g, f := upd E.o.f (E.sent + 1) (some ⟨V'.heap.size, bs⟩) } : St).own j -> E.o.own j ∨ w.heap.size ≤ j := by
  rintro j (⟨_, hj⟩ | ⟨n, b, hb, rfl⟩)
  ·have hj' : j = g := hj
   rcases hg with ⟨e1, e2⟩ | hg
   ·exact .inl (.inl ⟨by rw [<- e1]; exact hN, hj'.trans e2⟩)
   ·right; omega
  ·by_cases e : n = E.sent + 1
   ·simp only [e, upd_same, Option.some.injEq] at hb; subst hb; right; show w.heap.size ≤ V'.heap.size; omega
   ·simp only [upd_ne _ _ e] at hb; exact .inl (.inr ⟨n, b, hb, rfl⟩)
 have hno3 : ∀ j, ({ p := E.o.p, L := N, rb := g, f := upd E.o.f (E.sent + 1) (some ⟨V'.heap.size, bs⟩) } : St).own j -> E.o.own j ∨ V'.heap.size ≤ j := by
  rintro j (⟨_, hj⟩ | ⟨n, b, hb, rfl⟩)
  ·have hj' : j = g := hj
   rcases hg with ⟨e1, e2⟩ | hg
   ·exact .inl (.inl ⟨by rw [<- e1]; exact hN, hj'.trans e2⟩)
   ·right; omega
  ·by_cases e : n = E.sent + 1
   ·simp only [e, upd_same, Option.some.injEq] at hb; subst hb; right; exact Nat.le_refl _
   ·simp only [upd_ne _ _ e] at hb; exact .inl (.inr ⟨n, b, hb, rfl⟩)
 refine ⟨{ E with o := { p := E.o.p, L := N, rb := g, f := upd E.o.f (E.sent + 1) (some ⟨V'.heap.size, bs⟩) }, sent := E.sent + 1 }, ⟨rfl, ⟨hblk, h.lo, hok, ?_, ?_, by show E.o.p ≤ E.sent + 1; have := h.s1; omega, by show E.sent + 1 ≤ E.o.p + room; omega, h62, ?_, ?_, h.iw, h.i1⟩, ?_, ?_⟩, ?_⟩
 ·exact hi.keep hk4 fun j hj e => e.elim (fun e => h2.ne_i (by rw [<- e]; exact hj)) (fun e => h.ap j (.inl e) hj)
 ·intro j hj hj2
  rcases hno3 j hj with h1 | h1
  ·exact h.ap j h1 hj2
  ·have := hno j (.inr (.inr hj2)); omega
 ·intro n hn1 hn2
  by_cases e : n = E.sent + 1
  ·show (upd E.o.f (E.sent + 1) _ n).isSome = true; rw [e, upd_same]; rfl
  ·show (upd E.o.f (E.sent + 1) _ n).isSome = true; rw [upd_ne _ _ e]; exact h.all n hn1 (by have : n ≤ E.sent + 1 := hn2; omega)
 ·intro n b hb
  by_cases e : n = E.sent + 1
  ·show n ≤ E.sent + 1; omega
  ·have hb' : upd E.o.f (E.sent + 1) (some ⟨V'.heap.size, bs⟩) n = some b := hb
   rw [upd_ne _ _ e] at hb'
   have := h.top n b hb'; show n ≤ E.sent + 1; omega
 ·have k1 : Kept w w2 E.own := Kept.ofBelow hb2 _
  exact ((k1.step kV (fun j hj => .inl (.inl hj))).step k3 (fun j hj => hj.elim)).step hk4 (fun j hj => hj.elim (fun e => .inl (.inl e)) (fun e => .inl (.inr (.inl (.inl e)))))
 ·rintro j (rfl | hj | hj)
  ·exact .inl (.inl rfl)
  ·exact (hno2 j hj).imp (fun h1 => .inr (.inl h1)) id
  ·exact .inl (.inr (.inr hj))
 ·simp only [En.pu, Ep.push, map_upd]
theorem push_no (h : M.Ok w B) {q : Int} (hq : M.at q = none) {ao : Option Addr} {n c : Nat} : Calls Try.prog 26 #[.pointer (some ⟨M.b, 0, none⟩), .int .i64 q, .slice ao n c] w fun e w' => e = .returned (.int .i64 41) /\ w = w' := by
 have HP : Hid (Calls Try.prog 60 #[.pointer (some ⟨M.b, 0, none⟩), .int .i64 q] w fun e w' => e = .returned (.pointer none) /\ w = w') := (show Calls _ _ _ _ _ from by have := peer_any h q; rw [hq] at this; exact this)
 clear h hq
 go_enter Try.func26, Try.ntmps26
 go_wp2_with (first | (go_at_call 60; refine HP.out.mono ?_; rintro e w' ⟨rfl, rfl⟩) | fail)
 go_ret
 exact ⟨rfl, rfl⟩
theorem push_arg (h : M.Ok w B) {q : Int} (hq : M.at q = some E) {ao : Option Addr} {n c : Nat} (hn : inR 1 300 (n : Int) = false) : Calls Try.prog 26 #[.pointer (some ⟨M.b, 0, none⟩), .int .i64 q, .slice ao n c] w fun e w' => e = .returned (.int .i64 1) /\ w = w' := by
 have HP : Hid (Calls Try.prog 60 #[.pointer (some ⟨M.b, 0, none⟩), .int .i64 q] w fun e w' => e = .returned (.pointer (some ⟨E.b, 0, none⟩)) /\ w = w') := (show Calls _ _ _ _ _ from by have := peer_any h q; rw [hq] at this; exact this)
 have HBd : Hid (Calls Try.prog 69 #[.slice ao n c] w fun e w' => e = .returned (.bool false) /\ w = w') := (show Calls _ _ _ _ _ from by rw [<- hn]; exact body_any)
 clear h hq hn
 go_enter Try.func26, Try.ntmps26
 go_wp2_with (first | (go_at_call 60; refine HP.out.mono ?_; rintro e w' ⟨rfl, rfl⟩) | (go_at_call 69; refine HBd.out.mono ?_; rintro e w' ⟨rfl, rfl⟩) | fail)
 go_ret
 exact ⟨rfl, rfl⟩
theorem push_full (h : M.Ok w B) {q : Int} (hq : M.at q = some E) {ao : Option Addr} {n c : Nat} (hn : inR 1 300 (n : Int) = true) (hs : E.o.p + M.room ≤ E.sent) : Calls Try.prog 26 #[.pointer (some ⟨M.b, 0, none⟩), .int .i64 q, .slice ao n c] w fun e w' => e = .returned (.int .i64 42) /\ Below w.heap.size w w' := by
 have HP : Hid (Calls Try.prog 60 #[.pointer (some ⟨M.b, 0, none⟩), .int .i64 q] w fun e w' => e = .returned (.pointer (some ⟨E.b, 0, none⟩)) /\ w = w') := (show Calls _ _ _ _ _ from by have := peer_any h q; rw [hq] at this; exact this)
 obtain ⟨k, rfl, hk, he⟩ := at_es hq
 have hE := h.el k E he
 have HBd : Hid (Calls Try.prog 69 #[.slice ao n c] w fun e w' => e = .returned (.bool true) /\ w = w') := (show Calls _ _ _ _ _ from by rw [<- hn]; exact body_any)
 have HW : Hid (∀ w1, Below w.heap.size w w1 -> Calls Try.prog 70 #[.pointer (some ⟨E.b, 0, none⟩)] w1 fun e w' => e = .returned (.int .i64 ((E.sent : Int) - (E.o.p : Int))) /\ Below w1.heap.size w1 w') := fun w1 hb => waiting_any (hE.still hb)
 have c2 : w.cell? ⟨M.b, 2, none⟩ = some (.int .i64 (M.room : Int)) := h.c 2 rfl
 have h3 := h.w1
 clear h hq hE hn
 go_enter Try.func26, Try.ntmps26
 go_wp2_with (first | (go_at_call 60; refine HP.out.mono ?_; rintro e w' ⟨rfl, rfl⟩) | (go_at_call 69; refine HBd.out.mono ?_; rintro e w' ⟨rfl, rfl⟩) | fail)
 refine wp_region_held_drew (S := (fun w' => w'.cell? ⟨M.b, 2, none⟩ = some (.int .i64 (M.room : Int)))) (by kernel_rfl) (bA (Below.refl _ _).drew c2) (fun hH => ?_)
 simp only [Act.put, lA, lC, lN, zA]
 refine wG 0 (.pointer (some ⟨E.b, 0, none⟩)) rfl hH ?_
 simp only [aP, gA, gZ, gC, sA, sZ, sC]
 refine wG 2 (.pointer (some ⟨M.b, 0, none⟩)) rfl hH ?_
 simp only [aP, gA, gZ, gC, sA, sZ, sC]
 refine wG 3 (.pointer (some ⟨M.b, 0, none⟩)) rfl hH ?_
 simp only [aP, gA, gZ, gC, sA, sZ, sC]
 refine wG 4 (.pointer (some ⟨M.b, 2, none⟩)) rfl hH ?_
 simp only [aP, gA, gZ, gC, sA, sZ, sC]
 refine wX 5 (.int .i64 (M.room : Int)) rfl (Or.inl ⟨by rfl, fun w' hS => by (have s0 := hS; go_simp)⟩) hH ?_
 simp only [aP, gA, gZ, gC, sA, sZ, sC]
 refine rY 1 rfl fun K hK => ?_
 go_simp
 refine (HW.out _ (Below.refl _ _).drew).mono ?_
 rintro e w2 ⟨rfl, hb2⟩
 refine hK.out _ _ (bA hb2 (bA (Below.refl _ _).drew c2)) (fun hH => ?_)
 clear hK K
 refine wX 6 (.bool true) rfl (Or.inl ⟨by rfl, fun w' hS => by (go_simp; omega)⟩) hH ?_
 simp only [aP, gA, gZ, gC, sA, sZ, sC]
 refine wpAnyH_done (by kernel_rfl) ?_ _
 clear hH
 go_wp2
 go_ret
 exact ⟨rfl, (Below.trans (Below.refl _ _).drew (hb2.mono (by simp)))⟩
structure PushO (w w' : World) (B : Nat) (M : Mx) (k : Nat) (E : En) (bs : List Int) : Prop where
 out : ∃ E', Estep w w' B M.win M.room E E' /\ E'.pu = E.pu.push bs
theorem push_ok (h : M.Ok w B) (hB : B ≤ w.heap.size) {q : Int} (hq : M.at q = some E) {ao : Option Addr} {c : Nat} {bs : List Int} (hr : Rd w ao bs.length c bs) (hn : inR 1 300 (bs.length : Int) = true) (hs : E.sent < E.o.p + M.room) (h62 : E.sent + 1 ≤ 4611686018427387904) : Calls Try.prog 26 #[.pointer (some ⟨M.b, 0, none⟩), .int .i64 q, .slice ao bs.length c] w fun e w' => e = .returned (.int .i64 0) /\ PushO w w' B M 0 E bs := by
 have HP : Hid (Calls Try.prog 60 #[.pointer (some ⟨M.b, 0, none⟩), .int .i64 q] w fun e w' => e = .returned (.pointer (some ⟨E.b, 0, none⟩)) /\ w = w') := (show Calls _ _ _ _ _ from by have := peer_any h q; rw [hq] at this; exact this)
 obtain ⟨k, rfl, hk, he⟩ := at_es hq
 have hE := h.el k E he
 have hn' : 1 ≤ bs.length /\ bs.length ≤ 300 := by simp [inR] at hn; omega
 have HBd : Hid (Calls Try.prog 69 #[.slice ao bs.length c] w fun e w' => e = .returned (.bool true) /\ w = w') := (show Calls _ _ _ _ _ from by rw [<- hn]; exact body_any)
 have HW : Hid (∀ w1, Below w.heap.size w w1 -> Calls Try.prog 70 #[.pointer (some ⟨E.b, 0, none⟩)] w1 fun e w' => e = .returned (.int .i64 ((E.sent : Int) - (E.o.p : Int))) /\ Below w1.heap.size w1 w') := fun w1 hb => waiting_any (hE.still hb)
 have c2 : w.cell? ⟨M.b, 2, none⟩ = some (.int .i64 (M.room : Int)) := h.c 2 rfl
 have h3 := h.w1
 have h4 := hE.s1
 have HE : Hid (E.Ok w B M.win M.room) := hE
 have Hr : Hid (Rd w ao bs.length c bs) := hr
 clear h hq hE hn hr
 go_enter Try.func26, Try.ntmps26
 go_wp2_with (first | (go_at_call 60; refine HP.out.mono ?_; rintro e w' ⟨rfl, rfl⟩) | (go_at_call 69; refine HBd.out.mono ?_; rintro e w' ⟨rfl, rfl⟩) | fail)
 refine wp_region_held_drew (S := (fun w' => w'.cell? ⟨M.b, 2, none⟩ = some (.int .i64 (M.room : Int)))) (by kernel_rfl) (bA (Below.refl _ _).drew c2) (fun hH => ?_)
 simp only [Act.put, lA, lC, lN, zA]
 refine wG 0 (.pointer (some ⟨E.b, 0, none⟩)) rfl hH ?_
 simp only [aP, gA, gZ, gC, sA, sZ, sC]
 refine wG 2 (.pointer (some ⟨M.b, 0, none⟩)) rfl hH ?_
 simp only [aP, gA, gZ, gC, sA, sZ, sC]
 refine wG 3 (.pointer (some ⟨M.b, 0, none⟩)) rfl hH ?_
 simp only [aP, gA, gZ, gC, sA, sZ, sC]
 refine wG 4 (.pointer (some ⟨M.b, 2, none⟩)) rfl hH ?_
 simp only [aP, gA, gZ, gC, sA, sZ, sC]
 refine wX 5 (.int .i64 (M.room : Int)) rfl (Or.inl ⟨by rfl, fun w' hS => by (have s0 := hS; go_simp)⟩) hH ?_
 simp only [aP, gA, gZ, gC, sA, sZ, sC]
 refine rY 1 rfl fun K hK => ?_
 go_simp
 refine (HW.out _ (Below.refl _ _).drew).mono ?_
 rintro e w2 ⟨rfl, hb2⟩
 refine hK.out _ _ (bA hb2 (bA (Below.refl _ _).drew c2)) (fun hH => ?_)
 clear hK K
 refine wX 6 (.bool false) rfl (Or.inl ⟨by rfl, fun w' hS => by (go_simp; omega)⟩) hH ?_
 simp only [aP, gA, gZ, gC, sA, sZ, sC]
 refine wpAnyH_done (by kernel_rfl) ?_ _
 clear hH
 have hbw : Below w.heap.size w w2 := (Below.trans (Below.refl _ _).drew (hb2.mono (by simp)))
 have HE2 := HE.out.still hbw
 have d2 : w2.cell? ⟨E.b, 2, none⟩ = some (.int .i64 (E.sent : Int)) := HE2.c 2 rfl
 have f2 := frozen_of_row w2 E.b 2 _ _ HE2.blk
 generalize hV : w2.setCell ⟨E.b, 2, none⟩ (.int .i64 ((E.sent : Int) + 1)) = V
 have x2 : V.cell? ⟨E.b, 2, none⟩ = some (.int .i64 ((E.sent : Int) + 1)) := by rw [<- hV, bC (blk_set HE2.blk rfl)]; rfl
 have hVr : Kept w2 V (fun j => j = E.b) := by rw [<- hV]; exact kset _ _ _ _ rfl
 have HrV : Hid (Rd V ao bs.length c bs) := (show Rd V ao bs.length c bs from by
  refine (Hr.out.still hbw).keep hVr fun b off he hb => ?_
  have hb' : b = E.b := hb
  rcases (Hr.out.still hbw).at_ with h0 | ⟨b', off', h1, hc⟩
  ·omega
  ·rw [he] at h1
   cases h1
   have hcc := hc 0 (by omega)
   rw [hb', bC HE2.blk] at hcc
   exact ends_byte E _ _ hcc)
 have HC : Hid (∀ D, Below V.heap.size V D -> Calls Try.prog 62 #[.slice ao bs.length c] D fun e w' => e = .returned (.slice (some ⟨D.heap.size, 0, none⟩) bs.length bs.length) /\ Bk w' D.heap.size bs /\ Below D.heap.size D w') := fun D hb => copy_any (HrV.out.still hb) (by omega)
 have HPu : Hid (∀ D w3, Below V.heap.size V D -> Bk w3 D.heap.size bs -> Below D.heap.size D w3 -> Calls Try.prog 71 #[.pointer (some ⟨E.b, 0, none⟩), .int .i64 ((E.sent : Int) + 1), .slice (some ⟨D.heap.size, 0, none⟩) bs.length bs.length] w3 fun e w' => e = .returned (.tuple #[]) /\ PutO w3 w' B E.o E.b 0 (E.sent + 1) ⟨D.heap.size, bs⟩ ({ E with sent := E.sent + 1 } : En).cs) := fun D w3 hbD hbk hb3 => by
  obtain ⟨g1, g2, g3, g4, g5, g6, _⟩ := push_fin (w4 := w3) HE.out (by omega) hs h62 hB hbw (by rw [hV]; exact hbD) hb3 (by omega) (by omega) Hr.out.by_ hbk
  exact put_any (n := E.sent + 1) g2 g3 g4 g1 rfl (by omega) (by omega) h62 g5 g6
 have HF : Hid (∀ D w3 w4, Below V.heap.size V D -> Bk w3 D.heap.size bs -> Below D.heap.size D w3 -> PutO w3 w4 B E.o E.b 0 (E.sent + 1) ⟨D.heap.size, bs⟩ ({ E with sent := E.sent + 1 } : En).cs -> Hid (PushO w w4 B M 0 E bs)) := fun D w3 w4 hbD hbk hb3 hp => by
  obtain ⟨_, _, _, _, _, _, g7⟩ := push_fin (w4 := w4) HE.out (by omega) hs h62 hB hbw (by rw [hV]; exact hbD) hb3 (by omega) (by omega) Hr.out.by_ hbk
  exact (⟨g7 hp⟩ : PushO w w4 B M 0 E bs)
 clear HE2 hVr hbw hb2 HW HE
 go_wp2
 refine wp_region_held_drew (S := (fun w' => w'.cell? ⟨E.b, 2, none⟩ = some (.int .i64 ((E.sent : Int) + 1)))) (by kernel_rfl) (bA (Below.refl _ _).drew x2) (fun hH => ?_)
 simp only [Act.put, lA, lC, lN, zA]
 refine wG 0 (.pointer (some ⟨E.b, 0, none⟩)) rfl hH ?_
 simp only [aP, gA, gZ, gC, sA, sZ, sC]
 refine wG 1 (.pointer (some ⟨E.b, 0, none⟩)) rfl hH ?_
 simp only [aP, gA, gZ, gC, sA, sZ, sC]
 refine wG 2 (.pointer (some ⟨E.b, 0, none⟩)) rfl hH ?_
 simp only [aP, gA, gZ, gC, sA, sZ, sC]
 refine wG 3 (.pointer (some ⟨E.b, 0, none⟩)) rfl hH ?_
 simp only [aP, gA, gZ, gC, sA, sZ, sC]
 refine wG 4 (.pointer (some ⟨E.b, 0, none⟩)) rfl hH ?_
 simp only [aP, gA, gZ, gC, sA, sZ, sC]
 refine wG 5 (.pointer (some ⟨E.b, 2, none⟩)) rfl hH ?_
 simp only [aP, gA, gZ, gC, sA, sZ, sC]
 refine wX 6 (.int .i64 ((E.sent : Int) + 1)) rfl (Or.inl ⟨by rfl, fun w' hS => by (have s0 := hS; go_simp)⟩) hH ?_
 simp only [aP, gA, gZ, gC, sA, sZ, sC]
 refine wG 7 (.slice ao bs.length c) rfl hH ?_
 simp only [aP, gA, gZ, gC, sA, sZ, sC]
 have hbD : Below V.heap.size V V.drew := (Below.refl _ _).drew
 have y2 := bA hbD x2
 generalize V.drew = D at *
 refine rY 8 rfl fun K hK => ?_
 go_simp
 refine (HC.out D hbD).mono ?_
 rintro e w3 ⟨rfl, hbk, hb3⟩
 refine hK.out _ _ (bA hb3 y2) (fun hH => ?_)
 clear hK K
 refine rY 9 rfl fun K hK => ?_
 go_simp
 refine (HPu.out D w3 hbD hbk hb3).mono ?_
 rintro e w4 ⟨rfl, hp4⟩
 refine hK.out _ _ (by obtain ⟨⟨N, g, cs', _, _, _, _, hblk, _, _, hrest, _⟩⟩ := hp4; rw [bC hblk, hrest 2 (by decide)]; rfl) (fun hH => ?_)
 have HX := HF.out D w3 w4 hbD hbk hb3 hp4
 clear hK K hp4
 refine wpAnyH_done (by kernel_rfl) ?_ _
 clear hH
 go_wp2
 go_ret
 exact ⟨rfl, HX.out⟩
end
end Go.Proofs.Ythanifbimndhaaa.Ln
