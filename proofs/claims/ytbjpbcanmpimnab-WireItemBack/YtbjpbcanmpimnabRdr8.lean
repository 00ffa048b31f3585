import Derived.Test.YtbjpbcanmpimnabRdr7
namespace Go.Proofs.Ytbjpbcanmpimnab.Lo
open Go.RowKit Bk
set_option linter.unusedVariables false

inductive DI (bs : List Int) : Except Int It → Prop
  | long : 300 < bs.length → DI bs (.error 17)
  | short : bs.length = 0 → DI bs (.error 10)
  | kind : bs.length ≠ 0 → bs.length ≤ 300 → inR (bs.getD 0 0) 1 2 = false → DI bs (.error 12)
  | derr (x : Int) : bs.length ≠ 0 → bs.length ≤ 300 → bs.getD 0 0 = 1 → decD bs 1 = .error x → DI bs (.error x)
  | dtail (s q st : Int) (body : List Int) (a : Nat) : bs.length ≠ 0 → bs.length ≤ 300 → bs.getD 0 0 = 1 → decD bs 1 = .ok ((s, q, st, body), a) → a < bs.length → DI bs (.error 15)
  | data (s q st : Int) (body : List Int) (a : Nat) : bs.length ≠ 0 → bs.length ≤ 300 → bs.getD 0 0 = 1 → decD bs 1 = .ok ((s, q, st, body), a) → ¬ a < bs.length → DI bs (.ok ⟨1, s, q, st, body, 0, 0, 0, 0⟩)
  | s0 (x : Int) : bs.length ≠ 0 → bs.length ≤ 300 → bs.getD 0 0 = 2 → cnt bs 1 1 4611686018427387904 = .error x → DI bs (.error x)
  | s1 (x p : Int) (a1 : Nat) : bs.length ≠ 0 → bs.length ≤ 300 → bs.getD 0 0 = 2 → cnt bs 1 1 4611686018427387904 = .ok (p, a1) → cnt bs a1 0 (p - 1) = .error x → DI bs (.error x)
  | s2 (x p st2 : Int) (a1 a2 : Nat) : bs.length ≠ 0 → bs.length ≤ 300 → bs.getD 0 0 = 2 → cnt bs 1 1 4611686018427387904 = .ok (p, a1) → cnt bs a1 0 (p - 1) = .ok (st2, a2) → cnt bs a2 0 15 = .error x → DI bs (.error x)
  | s3 (x p st2 ss : Int) (a1 a2 a3 : Nat) : bs.length ≠ 0 → bs.length ≤ 300 → bs.getD 0 0 = 2 → cnt bs 1 1 4611686018427387904 = .ok (p, a1) → cnt bs a1 0 (p - 1) = .ok (st2, a2) → cnt bs a2 0 15 = .ok (ss, a3) → cnt bs a3 1 4611686018427387904 = .error x → DI bs (.error x)
  | stail (p st2 ss sq : Int) (a1 a2 a3 a4 : Nat) : bs.length ≠ 0 → bs.length ≤ 300 → bs.getD 0 0 = 2 → cnt bs 1 1 4611686018427387904 = .ok (p, a1) → cnt bs a1 0 (p - 1) = .ok (st2, a2) → cnt bs a2 0 15 = .ok (ss, a3) → cnt bs a3 1 4611686018427387904 = .ok (sq, a4) → a4 < bs.length → DI bs (.error 15)
  | slot (p st2 ss sq : Int) (a1 a2 a3 a4 : Nat) : bs.length ≠ 0 → bs.length ≤ 300 → bs.getD 0 0 = 2 → cnt bs 1 1 4611686018427387904 = .ok (p, a1) → cnt bs a1 0 (p - 1) = .ok (st2, a2) → cnt bs a2 0 15 = .ok (ss, a3) → cnt bs a3 1 4611686018427387904 = .ok (sq, a4) → ¬ a4 < bs.length → DI bs (.ok ⟨2, 0, 0, 0, [], p, st2, ss, sq⟩)

theorem decI_DI (bs : List Int) : DI bs (decI bs) := by
  unfold decI
  split
  · rename_i h; exact .long h
  · rename_i hl
    split
    · rename_i h; exact .short h
    · rename_i h0
      have hl' : bs.length ≤ 300 := by omega
      split
      · rename_i hk
        split
        · rename_i hd; exact .derr _ h0 hl' hk hd
        · rename_i hd
          split
          · rename_i ht; exact .dtail _ _ _ _ _ h0 hl' hk hd ht
          · rename_i ht; exact .data _ _ _ _ _ h0 hl' hk hd ht
      · rename_i hk1
        split
        · rename_i hk
          split
          · rename_i e1; exact .s0 _ h0 hl' hk e1
          · rename_i e1
            split
            · rename_i e2; exact .s1 _ _ _ h0 hl' hk e1 e2
            · rename_i e2
              split
              · rename_i e3; exact .s2 _ _ _ _ _ h0 hl' hk e1 e2 e3
              · rename_i e3
                split
                · rename_i e4; exact .s3 _ _ _ _ _ _ _ h0 hl' hk e1 e2 e3 e4
                · rename_i e4
                  split
                  · rename_i ht; exact .stail _ _ _ _ _ _ _ _ h0 hl' hk e1 e2 e3 e4 ht
                  · rename_i ht; exact .slot _ _ _ _ _ _ _ _ h0 hl' hk e1 e2 e3 e4 ht
        · rename_i hk2
          refine .kind h0 hl' ?_
          generalize bs.getD 0 0 = k at *
          unfold inR
          simp
          omega

theorem decI_nz {bs : List Int} {x : Int} (h : decI bs = .error x) : x ≠ 0 := by
  have hd := decI_DI bs
  rw [h] at hd
  cases hd with
  | long => decide
  | short => decide
  | kind => decide
  | derr _ _ _ _ h => exact decD_nz h
  | dtail => decide
  | s0 _ _ _ _ h => exact cnt_nz h
  | s1 _ _ _ _ _ _ _ h => exact cnt_nz h
  | s2 _ _ _ _ _ _ _ _ _ _ h => exact cnt_nz h
  | s3 _ _ _ _ _ _ _ _ _ _ _ _ _ h => exact cnt_nz h
  | stail => decide

theorem dec_ok (ao : Option Addr) (n c : Nat) (bs : List Int) (w : World) (hr : Rd w ao n c bs) (hnc : n ≤ c) (it : It) (h : decI bs = .ok it) :
    Calls Try.prog 10 #[.slice ao n c] w fun e w' => ∃ ab cb, e = .returned (.tuple #[.agg #[.int .i64 it.k, .int .i64 it.s, .int .i64 it.q, .int .i64 it.st, .slice ab it.body.length cb, .int .i64 it.p, .int .i64 it.st2, .int .i64 it.ss, .int .i64 it.sq], .int .i64 0]) ∧ Own w' w.heap.size (.slice ab it.body.length cb) it.body ∧ Below w.heap.size w w' := by
  have hd := decI_DI bs
  rw [h] at hd
  have hl := hr.1
  cases hd with
  | data s q st body a h0 h1 hk hd ht => exact dec_data ao n c w bs hr (by omega) (by omega) hnc hk s q st body a hd (by omega)
  | slot p st2 ss sq a1 a2 a3 a4 h0 h1 hk e1 e2 e3 e4 ht =>
    refine (dec_slot ao n c w bs hr (by omega) (by omega) hnc hk p st2 ss sq a1 a2 a3 a4 e1 e2 e3 e4 (by omega)).mono ?_
    rintro e w' ⟨rfl, hb⟩
    exact ⟨none, 0, rfl, World.ownsRow_nil _ _ _ _, hb⟩

theorem dec_err (ao : Option Addr) (n c : Nat) (bs : List Int) (w : World) (hr : Rd w ao n c bs) (hnc : n ≤ c) (x : Int) (h : decI bs = .error x) :
    Calls Try.prog 10 #[.slice ao n c] w fun e w' => e = .returned (.tuple #[.agg #[.int .i64 0, .int .i64 0, .int .i64 0, .int .i64 0, .slice none 0 0, .int .i64 0, .int .i64 0, .int .i64 0, .int .i64 0], .int .i64 x]) ∧ Below w.heap.size w w' := by
  have hd := decI_DI bs
  rw [h] at hd
  have hl := hr.1
  cases hd with
  | long h => exact dec_long ao n c w (by omega)
  | short h => exact dec_short ao n c w (by omega)
  | kind h0 h1 hk => exact dec_kind ao n c w bs hr (by omega) (by omega) hk
  | derr _ h0 h1 hk hd => exact dec_data_err ao n c w bs hr (by omega) (by omega) hnc hk x hd
  | dtail s q st body a h0 h1 hk hd ht => exact dec_data_tail ao n c w bs hr (by omega) (by omega) hnc hk s q st body a hd (by omega)
  | s0 _ h0 h1 hk e1 => exact dec_slot_err0 ao n c w bs hr (by omega) (by omega) hnc hk x e1
  | s1 _ p a1 h0 h1 hk e1 e2 => exact dec_slot_err1 ao n c w bs hr (by omega) (by omega) hnc hk x p a1 e1 e2
  | s2 _ p st2 a1 a2 h0 h1 hk e1 e2 e3 => exact dec_slot_err2 ao n c w bs hr (by omega) (by omega) hnc hk x p st2 a1 a2 e1 e2 (.inl e3)
  | s3 _ p st2 ss a1 a2 a3 h0 h1 hk e1 e2 e3 e4 => exact dec_slot_err2 ao n c w bs hr (by omega) (by omega) hnc hk x p st2 a1 a2 e1 e2 (.inr ⟨ss, a3, e3, e4⟩)
  | stail p st2 ss sq a1 a2 a3 a4 h0 h1 hk e1 e2 e3 e4 ht => exact dec_slot_tail ao n c w bs hr (by omega) (by omega) hnc hk p st2 ss sq a1 a2 a3 a4 e1 e2 e3 e4 (by omega)

end Go.Proofs.Ytbjpbcanmpimnab.Lo
