import Derived.Test.YtnhhjelplmdloaaV31
namespace Go.Proofs.Ytnhhjelplmdloaa.Et
open Go.RowKit Go.Maps
set_option linter.unusedVariables false
set_option linter.unusedSimpArgs false
set_option maxRecDepth 100000
section
variable {E E1 E' : En} {w w' w1 w2 w3 : World} {B K m : Nat}
structure RdG (w : World) (B : Nat) (a : Option Addr) (n c : Nat) (L : List Fx) : Prop where
  len : L.length = n
  row : w.ownsRow B 43 5 (.slice a n c) n (flCells L)
  byt : ∀ i, i < n → (L.getD i f0).byt w B
  ap : ∀ i j, i < n → j < n → i ≠ j → (L.getD i f0).apart (L.getD j f0)
theorem RdG.rdf {a : Option Addr} {n c : Nat} {L : List Fx} (h : RdG w B a n c L) : RdF w a n (L.map Fx.d) := ⟨L, rfl, h.len, fun f hf => by
  obtain ⟨i, hi, rfl⟩ := List.getElem_of_mem hf
  have := (h.byt i (by rw [← h.len]; exact hi)).rd
  simpa [List.getD, List.getElem?_eq_getElem hi] using this, row_cells h.row h.len⟩
theorem RdG.keep {P : Nat → Prop} {a : Option Addr} {n c : Nat} {L : List Fx} (h : RdG w B a n c L) (k : Kept w w' P) (hp : ∀ j, B ≤ j → ¬ P j) : RdG w' B a n c L :=
  ⟨h.len, k.owns h.row (fun j hj => hp j (World.ownsRow.lt h.row j hj).1), fun i hi => (h.byt i hi).keep k (fun j hj => hp j (World.ownsRow.lt (h.byt i hi).1 j hj).1), h.ap⟩
theorem RdG.still {a : Option Addr} {n c : Nat} {L : List Fx} (h : RdG w B a n c L) (hb : Below w.heap.size w w') : RdG w' B a n c L := h.keep (Kept.ofBelow hb (fun _ => False)) (fun _ _ => id)
set_option maxHeartbeats 400000 in
theorem flights2_any (h : E.Ok w B m) (hlen : E.fs.length ≤ 20000) (hsz : ∀ f ∈ E.fs, f.n ≤ 40000) : Calls Try.prog 15 #[.pointer (some ⟨E.b, 0, none⟩)] w fun e w' => ∃ a L, e = .returned (.slice a E.fs.length E.fs.length) ∧ RdG w' w.heap.size a E.fs.length E.fs.length L ∧ L.map Fx.d = E.fs.map Fx.d ∧ Below w.heap.size w w' := by
  obtain ⟨i0, hi, hz0, hz1, hz2⟩ := info_parts info_fl
  have c6 := h.c6
  have Hh : Hid (E.Ok w B m) := h
  clear h
  go_enter Try.func15, Try.ntmps15
  go_wp2_with (first
    | (at_make; refine wpList_make_full _ rfl _ _ 39 rfl w.heap.size 43 i0 (.agg #[.int .i64 0, .int .i64 0, .int .i64 0, .int .i64 0, .slice none 0 0]) 5 Try.underlying39 hi hz0 hz1 .i64 .i64 _ _ E.fs.length rfl rfl rfl rfl ?b2 ?b3 (Nat.le_refl _) ?_)
    | fail)
  case b2 => rw [hz2]; omega
  case b3 => unfold maxLen; omega
  intro w1 hown hgrow
  have HB1 : Hid (Below w.heap.size w w1) := (Below.refl _ w).grown hgrow (Nat.le_refl _) (fun k hk => by cases hk)
  have HO1 : Hid (w1.ownsRow w.heap.size 43 5 (.slice (some ⟨w.heap.size, 0, none⟩) E.fs.length E.fs.length) E.fs.length (flCells (List.replicate E.fs.length f0))) := by rw [← made_zero]; exact hown
  have c61 := (Hh.out.still HB1.out).c6
  clear hown hgrow
  go_wp2
  have HL : Hid (∀ f ∈ E.fs, f.n ≤ 40000) := hsz
  clear hsz c6
  generalize hN : E.fs.length = N at *
  go_loopw [17] (fun i wr => ∃ (k : Nat) (L : List Fx), k ≤ N ∧ i = .int .i64 k ∧ L.length = N ∧ wr.ownsRow w.heap.size 43 5 (.slice (some ⟨w.heap.size, 0, none⟩) N N) N (flCells L) ∧ (∀ j, j < k → (L.getD j f0).d = (E.fs.getD j f0).d ∧ (L.getD j f0).byt wr w.heap.size) ∧ (∀ i j, i < k → j < k → i ≠ j → (L.getD i f0).apart (L.getD j f0)) ∧ Below w.heap.size w wr) (fun i _ => N - (intOf i).toNat)
  case atStart => exact ⟨0, List.replicate N f0, Nat.zero_le _, rfl, by simp, HO1.out, fun j hj => by omega, fun i j hi => by omega, HB1.out⟩
  case round =>
    obtain ⟨k, L, hk, rfl, hL, hrow, hall, hap, hbel⟩ := hrel
    have HP : Hid (∀ i j, i < k → j < k → i ≠ j → (L.getD i f0).apart (L.getD j f0)) := hap
    have HR : Hid (wr.ownsRow w.heap.size 43 5 (.slice (some ⟨w.heap.size, 0, none⟩) N N) N (flCells L)) := hrow
    have HA : Hid (∀ j, j < k → (L.getD j f0).d = (E.fs.getD j f0).d ∧ (L.getD j f0).byt wr w.heap.size) := hall
    have HB : Hid (Below w.heap.size w wr) := hbel
    clear hrow hall hap hbel
    by_cases hlt : k < N
    · have hE := Hh.out.still HB.out
      obtain ⟨g, hg, u0, u1, u2, u3, u4, uz⟩ := hE.flC (k := k) (by omega)
      have hfm : E.fs.getD k f0 ∈ E.fs := mem_getD (by omega)
      have hfb := hE.fls.byt _ hfm
      have hfn := HL.out _ hfm
      generalize hf : E.fs.getD k f0 = f at u0 u1 u2 u3 u4 hfb hfn
      have HC : Hid (∀ w', Below wr.heap.size wr w' → Calls Try.prog 36 #[.agg #[.int .i64 f.id, .int .i64 f.src, .int .i64 f.dst, .int .i64 f.due, .slice f.a f.n f.c]] w' fun e w2 => ∃ g, e = .returned (.agg #[.int .i64 f.id, .int .i64 f.src, .int .i64 f.dst, .int .i64 f.due, .slice (some ⟨g, 0, none⟩) f.n f.n]) ∧ w2.ownsRow w'.heap.size 5 1 (.slice (some ⟨g, 0, none⟩) f.n f.n) f.n (f.bs.map (Value.int .u8)) ∧ Below w'.heap.size w' w2) := fun w' hb => copyFlight_any f.id f.src f.dst f.due f.a f.n f.c f.bs (hfb.rd.still hb) (by omega)
      have hrr := hfb.2
      have i1 : (0 : Int) ≤ (k : Int) := Int.natCast_nonneg _
      have i2 : (k : Int) < (N : Int) := by omega
      have hwz : w.heap.size ≤ wr.heap.size := HB.out.size
      rw [hg]
      clear hE hfb hfm uz hfn
      go_wp2_with (first
        | (go_at_call 36; refine (HC.out _ (by repeat (first | exact Below.refl _ _ | apply Below.drew | apply balloc))).mono ?_; rintro e w2 ⟨gb, rfl, ho, hb2⟩; have B2 : Hid (Below wr.heap.size wr w2) := (bstepA (Below.refl _ wr) hb2); have HR2 : Hid (w2.ownsRow w.heap.size 43 5 (.slice (some ⟨w.heap.size, 0, none⟩) N N) N (flCells L)) := own_still HR.out B2.out; have HGB : Hid (wr.heap.size ≤ gb) := (show wr.heap.size ≤ gb from by have := (World.ownsRow.lt ho gb rfl).1; simp at this; omega); have Ho : Hid (w2.ownsRow w.heap.size 5 1 (.slice (some ⟨gb, 0, none⟩) f.n f.n) f.n (f.bs.map (Value.int .u8))) := (own_lower ho (by simp; omega)); obtain ⟨x0, x1, x2, x3, x4, y0, y1, y2, y3, y4⟩ := row_at HR2.out (show k < L.length by omega); clear ho hb2)
        | fail)
      rw [put5at_eq]
      have kp : Kept w2 (put5at w2 w.heap.size (k * 5) (.int .i64 f.id) (.int .i64 f.src) (.int .i64 f.dst) (.int .i64 f.due) (.slice (some ⟨gb, 0, none⟩) f.n f.n)) (fun j => j = w.heap.size) := put5at_kept _ _ _ _ _ _ _
      refine ⟨⟨k + 1, L.set k ⟨f.id, f.src, f.dst, f.due, some ⟨gb, 0, none⟩, f.n, f.n, f.bs⟩, by omega, by go_num, by simpa using hL, row_put HR2.out k (by omega) ⟨f.id, f.src, f.dst, f.due, some ⟨gb, 0, none⟩, f.n, f.n, f.bs⟩, ?_, ?_, ?_⟩, ?_⟩
      · intro j hj
        by_cases e : j = k
        · subst e
          rw [getD_set L j (by omega), hf]
          refine ⟨rfl, kp.owns Ho.out (fun q hq e => ?_), hrr⟩
          exact own_ty Ho.out HR2.out (by decide) hq (by rw [e]; rfl)
        · have e2 : (L.set k ⟨f.id, f.src, f.dst, f.due, some ⟨gb, 0, none⟩, f.n, f.n, f.bs⟩).getD j f0 = L.getD j f0 := by
            simp [List.getD, List.getElem?_set, show ¬ k = j by omega]
          rw [e2]
          obtain ⟨a1, a2⟩ := HA.out j (by omega)
          have a3 := a2.keep (Kept.ofBelow B2.out (fun _ => False)) (fun _ _ => id)
          exact ⟨a1, a3.keep kp (fun q hq e => own_ty a3.1 HR2.out (by decide) hq (by rw [e]; rfl))⟩
      · have hold : ∀ j, j < k → ∀ q, (L.getD j f0).v.ownBlock = some q → q < wr.heap.size := fun j hj q hq => by
          obtain ⟨_, cur⟩ := row_ty (HA.out j hj).2.1 hq
          exact (Array.getElem?_eq_some_iff.1 cur).1
        have hget : ∀ j, j < k + 1 → (L.set k (⟨f.id, f.src, f.dst, f.due, some ⟨gb, 0, none⟩, f.n, f.n, f.bs⟩ : Fx)).getD j f0 = if j = k then ⟨f.id, f.src, f.dst, f.due, some ⟨gb, 0, none⟩, f.n, f.n, f.bs⟩ else L.getD j f0 := fun j hj => by
          by_cases e : j = k
          · subst e
            rw [getD_set L j (by omega), if_pos rfl]
          · rw [if_neg e]
            simp [List.getD, List.getElem?_set, show ¬ k = j by omega]
        intro i j hi hj hij
        rw [hget i hi, hget j hj]
        have hnew : ∀ q, (⟨f.id, f.src, f.dst, f.due, some ⟨gb, 0, none⟩, f.n, f.n, f.bs⟩ : Fx).v.ownBlock = some q → wr.heap.size ≤ q := fun q hq => by
          have e : some gb = some q := hq
          simp at e
          have := HGB.out
          omega
        by_cases e1 : i = k
        · rw [if_pos e1, if_neg (by omega)]
          intro q hq e
          have := hnew q hq
          have := hold j (by omega) q e
          omega
        · rw [if_neg e1]
          by_cases e2 : j = k
          · rw [if_pos e2]
            intro q hq e
            have := hnew q e
            have := hold i (by omega) q hq
            omega
          · rw [if_neg e2]
            exact HP.out i j (by omega) (by omega) hij
      · exact (HB.out.trans (B2.out.mono HB.out.size)).trans (kp.below (by have := B2.out.size; omega) (fun j hj e => by omega))
      · simp [intOf]; omega
    · obtain rfl : k = N := by omega
      go_wp2
      go_ret
      rw [hN]
      refine ⟨_, L, rfl, ⟨hL, HR.out, fun i hi => (HA.out i hi).2, HP.out⟩, ?_, HB.out⟩
      apply List.ext_getElem
      · simp [hL, hN]
      · intro i h1 h2
        have hi : i < k := by simpa [hL] using h1
        have := (HA.out i hi).1
        simp only [List.getElem_map]
        simpa [List.getD, List.getElem?_eq_getElem (show i < L.length by omega), List.getElem?_eq_getElem (show i < E.fs.length by omega)] using this
end
end Go.Proofs.Ytnhhjelplmdloaa.Et
