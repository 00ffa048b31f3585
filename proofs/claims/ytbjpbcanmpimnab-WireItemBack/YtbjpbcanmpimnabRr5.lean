import Derived.Test.YtbjpbcanmpimnabRr4
namespace Go.Proofs.Ytbjpbcanmpimnab.Lo
open Go.RowKit Bk
set_option linter.unusedVariables false

set_option maxRecDepth 100000 in
set_option maxHeartbeats 8000000 in
theorem rdec_kind (ao : Option Addr) (n c : Nat) (w : World) (bs : List Int) (hr : Rd w ao n c bs) (h0 : n ≠ 0) (h1 : n ≤ 300) (hnc : n ≤ c) (hk : inR (bs.getD 0 0) 1 2 = false) :
    Calls Try.prog 25 #[.slice ao n c] w fun e w' => e = .returned (.tuple #[.agg #[.int .i64 0, .int .i64 0, .int .i64 0, .int .i64 0, .slice none 0 0, .int .i64 0, .int .i64 0, .int .i64 0, .int .i64 0], .int .i64 12]) ∧ Below w.heap.size w w' := by
  obtain ⟨b, off, rfl, hc⟩ := rd_cell0 hr h0
  have HR : Hid (Rd w (some ⟨b, off, none⟩) n c bs) := hr
  have hpos : 0 < n := by omega
  have hk0 := hr.2.2.2 0
  generalize bs.getD 0 0 = kk at *
  have hw1' : wrap64 kk = kk := w64 _ (by omega)
  have hk1 : (kk == 1) = false := by simp; intro e; subst e; exact absurd hk (by decide)
  have hk2 : (kk == 2) = false := by simp; intro e; subst e; exact absurd hk (by decide)
  have h1' : ¬ (300 : Int) < (n : Int) := by omega
  have h0' : ¬ (n : Int) = 0 := by omega
  have hbl : b < w.heap.size := World.block_lt_of_cell? w _ hc
  clear hr hk
  go_enter Try.func25, Try.ntmps25
  go_wp2_with fail
  have S0 := Sd.new w #[.int .i64 0, .int .i64 0, .int .i64 0, .int .i64 0, .slice none 0 0, .int .i64 0, .int .i64 0, .int .i64 0, .int .i64 0] #[.slice (some ⟨b, off, none⟩) n c, .int .i64 1, .int .i64 0] #[.int .i64 kk, .int .i64 0, .int .i64 0, .int .i64 0, .slice none 0 0, .int .i64 0, .int .i64 0, .int .i64 0, .int .i64 0] 105 28
  have q := fun i => S0.cellO i
  exact bodyPost_ret (v := .tuple #[.agg #[.int .i64 0, .int .i64 0, .int .i64 0, .int .i64 0, .slice none 0 0, .int .i64 0, .int .i64 0, .int .i64 0, .int .i64 0], .int .i64 12]) (by simp [results, Try.results25, go_sem, q]) rfl ⟨rfl, S0.b⟩

theorem decD_le {bs : List Int} {a a' : Nat} {s q st : Int} {body : List Int} (h : decD bs a = .ok ((s, q, st, body), a')) : a' ≤ bs.length := by
  obtain ⟨a1, a2, a3, a4, k, g1, g2, g3, g4, hf, hbody, ha'⟩ := decD_ok h
  omega

theorem rdec_ok (ao : Option Addr) (n c : Nat) (bs : List Int) (w : World) (hr : Rd w ao n c bs) (hnc : n ≤ c) (it : It) (h : decI bs = .ok it) :
    Calls Try.prog 25 #[.slice ao n c] w fun e w' => ∃ ab cb, e = .returned (.tuple #[.agg #[.int .i64 it.k, .int .i64 it.s, .int .i64 it.q, .int .i64 it.st, .slice ab it.body.length cb, .int .i64 it.p, .int .i64 it.st2, .int .i64 it.ss, .int .i64 it.sq], .int .i64 0]) ∧ Own w' w.heap.size (.slice ab it.body.length cb) it.body ∧ Below w.heap.size w w' := by
  have hd := decI_DI bs
  rw [h] at hd
  have hl := hr.1
  cases hd with
  | data s q st body a h0 h1 hk hd ht => exact rdec_data ao n c w bs hr (by omega) (by omega) hnc hk s q st body a hd (by have := decD_le hd; omega)
  | slot p st2 ss sq a1 a2 a3 a4 h0 h1 hk e1 e2 e3 e4 ht =>
    refine (rdec_slot ao n c w bs hr (by omega) (by omega) hnc hk p st2 ss sq a1 a2 a3 a4 e1 e2 e3 e4 (by have := (cnt_ok e4).2.2.1; omega)).mono ?_
    rintro e w' ⟨rfl, hb⟩
    exact ⟨none, 0, rfl, World.ownsRow_nil _ _ _ _, hb⟩

theorem rdec_err (ao : Option Addr) (n c : Nat) (bs : List Int) (w : World) (hr : Rd w ao n c bs) (hnc : n ≤ c) (x : Int) (h : decI bs = .error x) :
    Calls Try.prog 25 #[.slice ao n c] w fun e w' => e = .returned (.tuple #[.agg #[.int .i64 0, .int .i64 0, .int .i64 0, .int .i64 0, .slice none 0 0, .int .i64 0, .int .i64 0, .int .i64 0, .int .i64 0], .int .i64 x]) ∧ Below w.heap.size w w' := by
  have hd := decI_DI bs
  rw [h] at hd
  have hl := hr.1
  cases hd with
  | long h => exact rdec_long ao n c w (by omega)
  | short h => exact rdec_short ao n c w (by omega)
  | kind h0 h1 hk => exact rdec_kind ao n c w bs hr (by omega) (by omega) hnc hk
  | derr _ h0 h1 hk hd => exact rdec_data_err ao n c w bs hr (by omega) (by omega) hnc hk x hd
  | dtail s q st body a h0 h1 hk hd ht => exact rdec_data_tail ao n c w bs hr (by omega) (by omega) hnc hk s q st body a hd (by omega)
  | s0 _ h0 h1 hk e1 => exact rdec_slot_err0 ao n c w bs hr (by omega) (by omega) hnc hk x e1
  | s1 _ p a1 h0 h1 hk e1 e2 => exact rdec_slot_err1 ao n c w bs hr (by omega) (by omega) hnc hk x p a1 e1 e2
  | s2 _ p st2 a1 a2 h0 h1 hk e1 e2 e3 => exact rdec_slot_err2 ao n c w bs hr (by omega) (by omega) hnc hk x p a1 st2 a2 e1 e2 e3
  | s3 _ p st2 ss a1 a2 a3 h0 h1 hk e1 e2 e3 e4 => exact rdec_slot_err3 ao n c w bs hr (by omega) (by omega) hnc hk x p a1 st2 a2 ss a3 e1 e2 e3 e4
  | stail p st2 ss sq a1 a2 a3 a4 h0 h1 hk e1 e2 e3 e4 ht => exact rdec_slot_tail ao n c w bs hr (by omega) (by omega) hnc hk p st2 ss sq a1 a2 a3 a4 e1 e2 e3 e4 (by omega)

end Go.Proofs.Ytbjpbcanmpimnab.Lo
