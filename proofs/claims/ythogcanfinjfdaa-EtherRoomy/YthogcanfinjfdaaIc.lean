import Derived.Test.YthogcanfinjfdaaIb
namespace Go.Proofs.Ythogcanfinjfdaa.Et
open Go.RowKit Go.Maps
set_option linter.unusedVariables false
set_option linter.unusedSimpArgs false
set_option maxRecDepth 100000
section
variable {E E1 E' : En} {w w' w1 w2 w3 : World} {B K m b l k c : Nat} {room : Int}
structure Fr (E : En) (b : Nat) (room : Int) (l k c : Nat) : Prop where
  eb : E.b = b
  nn : E.nn = 2
  rm : E.room = room
  last : E.last = l
  len : E.fs.length = k
  ck : E.clock = 0
  up : ∀ p, p < 2 → E.up p = true
  cut : ∀ p q, E.cut p q = false
  inv : Inv E c
theorem fr_new (b bn bc bd : Nat) (r : Int) (h3 : 1 ≤ r) (h4 : r ≤ 20000) : Fr (newE b bn bc bd 2 r 2) b r 0 0 0 :=
  ⟨rfl, rfl, rfl, rfl, rfl, rfl, fun p hp => by simp [newE, hp], fun _ _ => rfl, ⟨⟨h3, h4⟩, by show ((0 : Nat) : Int) ≤ r; omega, Nat.le_refl _, fun f hf => (by cases hf), ⟨Int.le_refl _, Int.le_refl _⟩, List.Pairwise.nil, fun f hf => (by cases hf), ⟨Int.le_refl _, Int.le_refl _⟩, fun f hf => (by cases hf)⟩⟩
theorem path_yes (hn : E.nn = 2) (p q : Nat) (hp : p < 2) (hq : q < 2) (hpq : p ≠ q) (n : Nat) (hn2 : n ≤ 40000) : (isP E p q && decide ((n : Int) ≤ 40000)) = true := by
  rw [isP_nat (by omega) (by omega) hpq, decide_eq_true (by omega)]
  rfl
theorem post_yes (he : E.Ok w B m) (hB : B ≤ w.heap.size) (f : Fr E b room l k c) (hK : c ≤ 2199023255551) (hk : (k : Int) < room) (p q : Nat) (hp : p < 2) (hq : q < 2) (hpq : p ≠ q) (n : Nat) (hn : n ≤ 40000) (bs : List Int) (ea : Option Addr) (ec : Nat) (hr : Rd w ea n ec bs) : Calls Try.prog 14 (aQ E.b p q ea n ec) w fun e w1 => e = .returned (tup ((l : Int) + 1) 0) ∧ ∃ E1, Step w w1 E E1 B m ∧ Fr E1 b room (l + 1) (k + 1) (c + 1) := by
  have hno := path_yes f.nn p q hp hq hpq n hn
  have hnn := f.nn
  have hn16 := he.n16
  refine post_go he p q ea n ec (by omega) hno (f.up p hp) _ (fun w2 hb2 => ?_)
  refine (launch_ok (he.still hb2) (Nat.le_trans hB hb2.size) p q (by omega) (by omega) hpq (f.cut p q) ea n ec bs (hr.still hb2) (by omega) (by rw [f.len, f.rm]; exact hk) f.inv.r1.2).mono ?_
  rintro e w3 ⟨rfl, g, a, c', st⟩
  have hw := wN_is f.inv hK
  have hd := he.dly p q (by omega) (by omega)
  have hck := f.ck
  have hwd : IntKind.i64.wrap (E.clock + E.dl p q) = E.clock + E.dl p q := wrap_id (by omega) (by omega)
  refine ⟨⟨_, _, rfl⟩, by rw [hw, f.last]; rfl, _, st.pre hb2, ⟨f.eb, f.nn, f.rm, ?_, ?_, f.ck, f.up, f.cut, ?_⟩⟩
  · show wN E = _
    rw [hw, f.last]; simp
  · show (E.fs ++ [_]).length = _
    simp [f.len]
  · refine inv_add f.inv hK _ _ _ rfl hn ?_ ?_ (by rw [f.len, f.rm]; exact hk)
    · show E.clock < IntKind.i64.wrap (E.clock + E.dl p q)
      omega
    · show IntKind.i64.wrap (E.clock + E.dl p q) ≤ _
      omega
theorem post_no (he : E.Ok w B m) (f : Fr E b room l k c) (hk : room ≤ k) (p q : Nat) (hp : p < 2) (hq : q < 2) (hpq : p ≠ q) (n : Nat) (hn : n ≤ 40000) (ea : Option Addr) (ec : Nat) : Calls Try.prog 14 (aQ E.b p q ea n ec) w fun e w1 => e = .returned (tup 0 31) ∧ Below w.heap.size w w1 := by
  have hno := path_yes f.nn p q hp hq hpq n hn
  have hnn := f.nn
  refine post_go he p q ea n ec (by omega) hno (f.up p hp) _ (fun w2 hb2 => ?_)
  refine (launch_full (he.still hb2) p q (by omega) (by omega) (f.cut p q) ea n ec (by rw [f.len, f.rm]; exact hk)).mono ?_
  rintro e w3 ⟨rfl, hb3⟩
  exact ⟨⟨_, _, rfl⟩, rfl, bstep hb2 hb3⟩
def evK (k a : Int) : Ev := ⟨k, a, 0, 0, none, 0, 0, none, 0, 0⟩
theorem dup_no (he : E.Ok w B m) (f : Fr E b room l k c) (hk : room ≤ k) (hr : room = k) (h1 : 1 ≤ k) : Calls Try.prog 13 (aD E.b (evK 13 (room - 1))) w fun e w1 => e = .returned (.int .i64 31) ∧ Below w.heap.size w w1 := by
  have hlen := f.len
  refine do_packet E.b (evK 13 (room - 1)) (.inr (.inl rfl)) _ (fun w2 hb2 => ?_)
  refine (dp_full (he.still hb2) (evK 13 (room - 1)) (k - 1) (by show room - 1 = _; omega) (by omega) rfl (by rw [f.len, f.rm]; exact hk)).mono ?_
  rintro e w3 ⟨rfl, hb3⟩
  exact ⟨⟨_, rfl⟩, rfl, bstep hb2 hb3⟩
theorem drop_yes (he : E.Ok w B m) (f : Fr E b room l k c) (hr : room = k) (h1 : 1 ≤ k) : Calls Try.prog 13 (aD E.b (evK 12 (room - 1))) w fun e w1 => e = .returned (.int .i64 0) ∧ ∃ E1, Step w w1 E E1 B m ∧ Fr E1 b room l (k - 1) (c + 1) := by
  have hlen := f.len
  have hrm := f.inv.r1
  have hrr := f.rm
  refine do_packet E.b (evK 12 (room - 1)) (.inl rfl) _ (fun w2 hb2 => ?_)
  refine (dp_drop (he.still hb2) (evK 12 (room - 1)) (k - 1) (by show room - 1 = _; omega) (by omega) rfl (by omega)).mono ?_
  rintro e w3 ⟨rfl, a, c', st⟩
  refine ⟨⟨_, rfl⟩, rfl, _, st.pre hb2, ⟨f.eb, f.nn, f.rm, f.last, ?_, f.ck, f.up, f.cut, inv_sub f.inv a c' _ (List.eraseIdx_sublist _ _)⟩⟩
  show (E.fs.eraseIdx (k - 1)).length = _
  rw [List.length_eraseIdx, if_pos (by omega), f.len]
end
end Go.Proofs.Ythogcanfinjfdaa.Et
