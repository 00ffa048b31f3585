import Derived.Test.YtmphabgpabbbjabDoorU6
namespace Go.Proofs.YtmphabgpabbbjabDoor.Fg
open Go.RowKit Mb Ov
set_option linter.unusedVariables false
set_option maxRecDepth 100000
set_option linter.unusedSimpArgs false
section
variable {w w' W : World} {B : Nat}
theorem Held.lower {B' g : Nat} {p : Pt} (h : Held w B g p) (hB : B' ≤ B) : Held w B' g p := ⟨h.bk, by have := h.lo; omega⟩
theorem Jn.Ok.lower {B' : Nat} {J : Jn} (h : J.Ok w B) (hB : B' ≤ B) : J.Ok w B' := ⟨h.jb, h.row, h.n1, h.n16, h.ok, h.no, fun s g hs => ⟨(h.yes s g hs).1.lower hB, (h.yes s g hs).2⟩, h.ap, by have := h.lb; omega, by have := h.lp; omega, h.far⟩
theorem Rs.lower {B' : Nat} {v : Value} {vals : List Value} {cs : List (List Int)} (h : Rs w B v vals cs) (hB : B' ≤ B) : Rs w B' v vals cs := ⟨own_lower h.row hB, fun i hi => by obtain ⟨a, m, c, h1, h2⟩ := h.el i hi; exact ⟨a, m, c, h1, own_lower' h2 hB⟩⟩
theorem Qn.Ok.lower {B' : Nat} {Q : Qn} (h : Q.Ok w B) (hB : B' ≤ B) : Q.Ok w B' := ⟨h.blk, h.n1, h.n16, fun s => (h.row s).lower hB, h.el, h.len, h.ap, by have := h.lo; omega⟩
theorem duo_new {b bp b' n : Nat} {w1 w2 : World} (hj : (jnew b bp n).Ok w1 w.heap.size) (hb1 : Below w.heap.size w w1) (hq : (qnew b' n).Ok w2 w1.heap.size) (hb2 : Below w1.heap.size w1 w2) : Duo w2 w.heap.size (jnew b bp n) (qnew b' n) :=
  ⟨hj.still hb2, hq.lower hb1.size, rfl, fun _ _ => rel0, fun k hk hh => by
    have h1 := hj.own_lt k hk
    have h2 := hq.own_lo k hh
    omega⟩
set_option maxHeartbeats 1000000 in
theorem joins_no {x : Int} {oa : Option Addr} {on oc : Nat} (hx : ¬ (1 ≤ x ∧ x ≤ 16)) : Calls Tryd.prog 3 #[.int .i64 x, .slice oa on oc] w fun e w' => e = .returned (.bool true) ∧ Below w.heap.size w w' := by
  have H1 : Hid (Calls Tryd.prog 5 #[.int .i64 x] w fun e w' => e = .returned (.tuple #[.pointer none, .int .i64 1]) ∧ w = w') := new_no hx
  have H2 : Hid (Calls Tryd.prog 6 #[.int .i64 x] w fun e w' => e = .returned (.tuple #[.pointer none, .int .i64 1]) ∧ w = w') := qnew_no hx
  clear hx
  go_enter Tryd.func3, Tryd.ntmps3
  go_wp2_with (first
    | (go_at_call 5; refine H1.out.mono ?_; rintro e w' ⟨rfl, rfl⟩)
    | (go_at_call 6; refine H2.out.mono ?_; rintro e w' ⟨rfl, rfl⟩)
    | (go_at_call 7; refine (num_any _).mono ?_; rintro e w' ⟨rfl, rfl⟩)
    | fail)
  go_ret
  exact ⟨rfl, Below.refl _ _⟩
set_option maxHeartbeats 2000000 in
theorem joins_ok {n : Nat} {oa : Option Addr} {on oc : Nat} {os : Nat → Opx} (h1 : 1 ≤ n) (h16 : n ≤ 16) (ho : RdOps w oa on os) (hn : on ≤ 4398046511104) (hT : Tab w) : Calls Tryd.prog 3 #[.int .i64 (n : Int), .slice oa on oc] w fun e w' => e = .returned (.bool true) ∧ Below w.heap.size w w' := by
  have HO : Hid (RdOps w oa on os) := ho
  have HT : Hid (Tab w) := hT
  have h0B : 0 < w.heap.size := World.block_lt_of_cell? w _ (hT 0 (by omega))
  clear ho hT
  go_enter Tryd.func3, Tryd.ntmps3
  go_wp2_with fail
  refine (new_ok h1 h16).mono ?_
  rintro e w1 ⟨jb, bp, rfl, hj1, hb1⟩
  go_wp2_with fail
  refine (qnew_ok h1 h16).mono ?_
  rintro e w2 ⟨qb, rfl, hq2, hb2⟩
  have HD : Hid (Duo w2 w.heap.size (jnew jb bp n) (qnew qb n)) := duo_new hj1 hb1 hq2 hb2
  have HB : Hid (Below w.heap.size w w2) := bstep hb1 hb2
  have HJ : Hid ((jnew jb bp n).b = jb ∧ (qnew qb n).b = qb) := ⟨rfl, rfl⟩
  generalize jnew jb bp n = J0 at *
  generalize qnew qb n = Q0 at *
  clear hj1 hb1 hq2 hb2
  go_wp2_with (first
    | (go_at_call 7; refine (num_any _).mono ?_; rintro e w' ⟨rfl, rfl⟩)
    | fail)
  go_loopw [9] (fun v wr => ∃ (i : Nat) (J : Jn) (Q : Qn), i ≤ on ∧ v = .int .i64 (i : Int) ∧ Hid (J.b = jb ∧ Q.b = qb) ∧ Hid (Duo wr w.heap.size J Q) ∧ Hid (Below w.heap.size w wr)) (fun v _ => on - (intOf v).toNat)
  case atStart => exact ⟨0, J0, Q0, Nat.zero_le _, rfl, HJ, HD, HB⟩
  case round =>
    obtain ⟨i, J, Q, hi, rfl, hJ, hD, hB⟩ := hrel
    by_cases hlt : i < on
    · obtain ⟨b, off, hoa, x0, x1, x2, hrd, hlm, hs1, hs2⟩ := HO.out.at hB.out hlt
      have HP : Hid (Calls Tryd.prog 8 #[.pointer (some ⟨jb, 0, none⟩), .pointer (some ⟨qb, 0, none⟩), .agg #[.int .i64 (os i).k, .int .i64 (os i).s, .slice (os i).a (os i).m (os i).c]] wr fun e w' => PlOut wr w' w.heap.size J Q e) := (show Calls _ _ _ _ _ from by
        have hp := plays_any (k := (os i).k) (s := (os i).s) hD.out hrd hlm (fun h0 => (HO.out.2 i hlt).rd.inl h0) (HT.out.still hB.out) h0B hB.out.size
        rw [hJ.out.1, hJ.out.2] at hp
        exact hp)
      have i1 : (0 : Int) ≤ (i : Int) := Int.natCast_nonneg _
      have i2 : (i : Int) < (on : Int) := by omega
      subst hoa
      generalize (os i).k = ok at *
      generalize (os i).s = osn at *
      generalize (os i).a = oaa at *
      generalize (os i).m = om at *
      generalize (os i).c = occ at *
      clear hrd
      go_wp2_with (first | (go_at_call 8; refine HP.out.mono ?_; rintro e w3 ⟨rfl, J', Q', hJ', hQ', hD', hk', hown'⟩) | fail)
      have hB3 : Below w.heap.size w w3 := hB.out.trans (hk'.below hB.out.size (fun j hj hh => by have := hD.out.lo j hh; omega))
      have HF : Hid (J'.b = jb ∧ Q'.b = qb) := ⟨hJ'.trans hJ.out.1, hQ'.trans hJ.out.2⟩
      go_roundw
      case rel => exact ⟨i + 1, J', Q', by omega, by go_num, HF, hD', hB3⟩
      case measure => simp [intOf]; omega
    · obtain rfl : i = on := by omega
      go_wp2
      go_ret
      exact ⟨rfl, hB.out⟩
theorem joins_any {x : Int} {oa : Option Addr} {on oc : Nat} {os : Nat → Opx} (hx : -9223372036854775808 ≤ x ∧ x ≤ 9223372036854775807) (ho : RdOps w oa on os) (hn : on ≤ 4398046511104) (hT : Tab w) : Calls Tryd.prog 3 #[.int .i64 x, .slice oa on oc] w fun e w' => e = .returned (.bool true) ∧ Below w.heap.size w w' := by
  by_cases h : 1 ≤ x ∧ x ≤ 16
  · obtain ⟨n, rfl⟩ := Int.eq_ofNat_of_zero_le (show 0 ≤ x by omega)
    exact joins_ok (by omega) (by omega) ho hn hT
  · exact joins_no h
end
end Go.Proofs.YtmphabgpabbbjabDoor.Fg
