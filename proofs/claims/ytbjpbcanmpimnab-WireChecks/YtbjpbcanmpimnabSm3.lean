import Derived.Test.YtbjpbcanmpimnabSm2
import Derived.Deep.RegionHeld3
namespace Go.Proofs.Ytbjpbcanmpimnab.Lo
open Go.RowKit Bk
set_option linter.unusedVariables false
set_option linter.unusedSimpArgs false

structure Sam1 (w : World) (D E : Dt) (bs : List Int) : Prop where
  s : E.s = D.s
  q : E.q = D.q
  st : E.st = D.st
  n : E.n = D.n
  d : Rd w D.a D.n D.c bs
  e : Rd w E.a E.n E.c bs
  l : D.n ≤ 140737488355328
theorem Sam1.below {w w1 : World} {d e : Dt} {bs : List Int} (h : Sam1 w d e bs) (hb : Below w.heap.size w w1) : Sam1 w1 d e bs := ⟨h.s, h.q, h.st, h.n, h.d.below hb, h.e.below hb, h.l⟩
def Sam (w : World) (n : Nat) (ds es : List Dt) (bb : List (List Int)) : Prop := ∀ i, i < n → Sam1 w (ds.getD i dt0) (es.getD i dt0) (bb.getD i [])
theorem Sam.below {w w1 : World} {n : Nat} {ds es : List Dt} {bb : List (List Int)} (h : Sam w n ds es bb) (hb : Below w.heap.size w w1) : Sam w1 n ds es bb := fun i hi => (h i hi).below hb

theorem row_at {w : World} {ao : Option Addr} {n j : Nat} {ds : List Dt} (h : Rm w ao n ds) (hj : j < n) : ∃ b off, ao = some ⟨b, off, none⟩ ∧ w.cell? ⟨b, off + j * 4, none⟩ = some (.int .i64 (ds.getD j dt0).s) ∧ w.cell? ⟨b, off + j * 4 + 1, none⟩ = some (.int .i64 (ds.getD j dt0).q) ∧ w.cell? ⟨b, off + j * 4 + 2, none⟩ = some (.int .i64 (ds.getD j dt0).st) ∧ w.cell? ⟨b, off + j * 4 + 3, none⟩ = some (.slice (ds.getD j dt0).a (ds.getD j dt0).n (ds.getD j dt0).c) := by
  rcases h.2 with h | ⟨b, off, rfl, hc⟩
  · omega
  · exact ⟨b, off, rfl, hc j hj⟩

set_option maxRecDepth 100000 in
set_option maxHeartbeats 2000000 in
theorem sameDatas_any (a1 a2 : Option Addr) (n c1 c2 : Nat) (ds es : List Dt) (bb : List (List Int)) (w : World) (h1 : Rm w a1 n ds) (h2 : Rm w a2 n es) (h3 : Sam w n ds es bb) (hlen : n ≤ 140737488355328) :
    Calls Try.prog 58 #[.slice a1 n c1, .slice a2 n c2] w fun e w' => e = .returned (.bool true) ∧ Below w.heap.size w w' := by
  have H1 : Hid (Rm w a1 n ds) := h1
  have H2 : Hid (Rm w a2 n es) := h2
  have H3 : Hid (Sam w n ds es bb) := h3
  clear h1 h2 h3
  go_enter Try.func58, Try.ntmps58
  go_wp2_with fail
  go_loopw [5] (fun x wr => ∃ j : Nat, j ≤ n ∧ x = .int .i64 j ∧ Hid (Below w.heap.size w wr)) (fun x _ => n - (intOf x).toNat)
  case atStart => exact ⟨0, Nat.zero_le _, rfl, Below.refl _ _⟩
  case round =>
    obtain ⟨j, hj, rfl, HB⟩ := hrel
    by_cases hjn : j < n
    · obtain ⟨b, off, rfl, x1, x2, x3, x4⟩ := row_at (H1.out.below HB.out) hjn
      obtain ⟨b2, off2, rfl, y1, y2, y3, y4⟩ := row_at (H2.out.below HB.out) hjn
      have h3 := (H3.out.below HB.out) j hjn
      rw [h3.s] at y1
      rw [h3.q] at y2
      rw [h3.st] at y3
      rw [h3.n] at y4
      have r1 := h3.d
      have r2 := h3.e
      rw [h3.n] at r2
      have hm := h3.l
      have l1 := World.block_lt_of_cell? wr _ x1
      have l2 := World.block_lt_of_cell? wr _ y1
      simp only at l1 l2
      clear h3 H1 H2 H3
      generalize (ds.getD j dt0).s = s at *
      generalize (ds.getD j dt0).q = q at *
      generalize (ds.getD j dt0).st = st at *
      generalize (ds.getD j dt0).n = m at *
      generalize (ds.getD j dt0).a = xa at *
      generalize (ds.getD j dt0).c = xc at *
      generalize (es.getD j dt0).a = ya at *
      generalize (es.getD j dt0).c = yc at *
      generalize bb.getD j [] = bs at *
      have R1 : Hid (Rd wr xa m xc bs) := r1
      have R2 : Hid (Rd wr ya m yc bs) := r2
      clear r1 r2
      have i1 : (0 : Int) ≤ (j : Int) := Int.natCast_nonneg _
      have i2 : (j : Int) < (n : Int) := by omega
      go_wp2_with fail
      go_region_held3 (fun w' => w'.cell? ⟨b, off + j * 4, none⟩ = some (.int .i64 s) ∧ w'.cell? ⟨b, off + j * 4 + 1, none⟩ = some (.int .i64 q) ∧ w'.cell? ⟨b, off + j * 4 + 2, none⟩ = some (.int .i64 st) ∧ w'.cell? ⟨b, off + j * 4 + 3, none⟩ = some (.slice xa m xc) ∧ w'.cell? ⟨b2, off2 + j * 4, none⟩ = some (.int .i64 s) ∧ w'.cell? ⟨b2, off2 + j * 4 + 1, none⟩ = some (.int .i64 q) ∧ w'.cell? ⟨b2, off2 + j * 4 + 2, none⟩ = some (.int .i64 st) ∧ w'.cell? ⟨b2, off2 + j * 4 + 3, none⟩ = some (.slice ya m yc)) (go_keep)
        ((go_at_call 38; refine (sameD_any s q st xa ya m xc yc bs _ (by exact R1.out.below (below_drewN (Below.refl _ _) _)) (by exact R2.out.below (below_drewN (Below.refl _ _) _)) hm).mono ?_; rintro e w1 ⟨rfl, hb⟩; have HB1 : Hid (Below wr.heap.size wr w1) := (below_drewN (Below.refl _ _) _).trans hb; have z0 : w1.cell? ⟨b, off + j * 4, none⟩ = some (.int .i64 s) := (HB1.out.cell l1).trans x1; have z1 : w1.cell? ⟨b, off + j * 4 + 1, none⟩ = some (.int .i64 q) := (HB1.out.cell l1).trans x2; have z2 : w1.cell? ⟨b, off + j * 4 + 2, none⟩ = some (.int .i64 st) := (HB1.out.cell l1).trans x3; have z3 : w1.cell? ⟨b, off + j * 4 + 3, none⟩ = some (.slice xa m xc) := (HB1.out.cell l1).trans x4; have z4 : w1.cell? ⟨b2, off2 + j * 4, none⟩ = some (.int .i64 s) := (HB1.out.cell l2).trans y1; have z5 : w1.cell? ⟨b2, off2 + j * 4 + 1, none⟩ = some (.int .i64 q) := (HB1.out.cell l2).trans y2; have z6 : w1.cell? ⟨b2, off2 + j * 4 + 2, none⟩ = some (.int .i64 st) := (HB1.out.cell l2).trans y3; have z7 : w1.cell? ⟨b2, off2 + j * 4 + 3, none⟩ = some (.slice ya m yc) := (HB1.out.cell l2).trans y4; clear hb))
      go_wp2_with fail
      go_roundw
      case rel => exact ⟨j + 1, by omega, by go_num, bstep HB.out HB1.out⟩
      case measure => simp [intOf]; omega
    · go_wp2_with fail
      go_ret
      exact ⟨rfl, HB.out⟩

end Go.Proofs.Ytbjpbcanmpimnab.Lo
