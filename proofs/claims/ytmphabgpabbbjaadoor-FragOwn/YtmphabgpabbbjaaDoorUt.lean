import Derived.Test.YtmphabgpabbbjaaDoorUr
import Derived.Test.YtmphabgpabbbjaaDoorUn
namespace Go.Proofs.YtmphabgpabbbjaaDoor.Fg
open Go.RowKit Mb
set_option linter.unusedVariables false
set_option maxRecDepth 100000
set_option linter.unusedSimpArgs false
def pre (b : List Int) (i : Nat) : Pt := if i = 0 then p0 else ⟨b.length, crc b, b.take (i * 248)⟩
def nxt (b : List Int) (i : Nat) : Out := if i + 1 = cnt b.length then ⟨p0, some b, 0⟩ else ⟨pre b (i + 1), none, 0⟩
theorem cnt_edge {n i : Nat} (h : n ≤ 4000) (hi : i < cnt n) : (i + 1 < cnt n → (i + 1) * 248 < n) ∧ (i + 1 = cnt n → n ≤ (i + 1) * 248) ∧ (0 < i → i * 248 < n) := by
  unfold cnt at *
  rw [if_pos h] at *
  omega
theorem take_drop_join (b : List Int) (i : Nat) : b.take (i * 248) ++ (b.drop (i * 248)).take 248 = b.take ((i + 1) * 248) := by
  rw [show (i + 1) * 248 = i * 248 + 248 by omega, List.take_add]
theorem joined_pre {b : List Int} {p : Pt} {i : Nat} (hi : i < 17) (hp : i = 0 ∨ p = pre b i) : joined p (chunk b i) = b.take ((i + 1) * 248) := by
  have hpl := chunk_pl (b := b) hi
  by_cases e : i = 0
  · subst e
    rw [joined_zero (by rw [hpl]), chunk_drop]
    simp
  · rw [joined_more (by rw [hpl]; omega), chunk_drop]
    rcases hp with hp | hp
    · exact absurd hp e
    · rw [hp]
      unfold pre
      rw [if_neg e]
      exact take_drop_join b i
theorem fits_pre {b : List Int} {p : Pt} {i : Nat} (hb : By b) (hn : b.length ≤ 4000) (hi : i < cnt b.length) (hp : i = 0 ∨ p = pre b i) : fits p (chunk b i) = true := by
  have hc := cnt_le b.length
  have hpl := chunk_pl (b := b) (k := i) (by omega)
  by_cases e : i = 0
  · subst e
    exact fits_zero (by rw [hpl])
  · rcases hp with hp | hp
    · exact absurd hp e
    · have h3 := (cnt_edge hn hi).2.2 (by omega)
      unfold fits beg
      rw [if_neg (by rw [hpl]; omega), hp]
      unfold pre
      rw [if_neg e]
      rw [decide_eq_true_iff]
      refine ⟨(chunk_sz hn i).symm, ?_, (chunk_sm hb i).symm⟩
      show (b.take (i * 248)).length = _
      rw [hpl, List.length_take]
      omega
theorem take_nxt {b : List Int} {p : Pt} {i : Nat} (hb : By b) (hn : b.length ≤ 4000) (hi : i < cnt b.length) (hp : i = 0 ∨ p = pre b i) : take p (chunk b i) = nxt b i := by
  have hc := cnt_le b.length
  have hj := joined_pre (b := b) (p := p) (i := i) (by omega) hp
  have he := cnt_edge hn hi
  rw [take_eq ((form_iff _).2 (chunk_form hn hi)) (fits_pre hb hn hi hp), hj, chunk_sz hn, chunk_sm hb]
  unfold nxt
  by_cases e : i + 1 = cnt b.length
  · rw [if_pos e]
    have h2 := he.2.1 e
    have h3 : b.take ((i + 1) * 248) = b := List.take_of_length_le h2
    rw [h3, if_neg (by omega), if_pos rfl]
  · rw [if_neg e, if_pos (by rw [List.length_take]; have := he.1 (by omega); omega)]
    unfold pre
    rw [if_neg (by omega)]
theorem take_miss {b : List Int} {g i : Nat} (hn : b.length ≤ 4000) (hi : i < cnt b.length) (hg : g < i) : take (pre b g) (chunk b i) = ⟨pre b g, none, 91⟩ := by
  have hc := cnt_le b.length
  have hpl := chunk_pl (b := b) (k := i) (by omega)
  have hf : fits (pre b g) (chunk b i) = false := by
    unfold fits beg
    rw [if_neg (by rw [hpl]; omega), decide_eq_false_iff_not]
    rintro ⟨_, h2, _⟩
    rw [hpl] at h2
    unfold pre at h2
    by_cases e : g = 0
    · rw [if_pos e] at h2
      simp [p0] at h2
      omega
    · rw [if_neg e] at h2
      change (b.take (g * 248)).length = i * 248 at h2
      have h3 : (b.take (g * 248)).length ≤ g * 248 := List.length_take_le _ _
      omega
  unfold take
  rw [hf, Bool.and_false]
  rfl
section
variable {w w' W : World} {B : Nat}
theorem size_any (x : Int) : Calls Tryd.prog 8 #[.int .i64 x] w fun e w' => e = .returned (.int .i64 ((max 1 (min x 16)).toNat : Int)) ∧ w = w' := by
  by_cases h : x < 1
  · go_enter Tryd.func8, Tryd.ntmps8
    go_wp2
    go_ret
    exact ⟨ret_int (by omega), rfl⟩
  · by_cases h2 : 16 < x
    · go_enter Tryd.func8, Tryd.ntmps8
      go_wp2
      go_ret
      exact ⟨ret_int (by omega), rfl⟩
    · go_enter Tryd.func8, Tryd.ntmps8
      go_wp2
      go_ret
      exact ⟨ret_int (by omega), rfl⟩
set_option maxHeartbeats 400000 in
theorem short_any {ao : Option Addr} {n c : Nat} {b : List Int} (hr : Rd w ao n c b) (hn : n ≤ 140737488355328) : Calls Tryd.prog 15 #[.slice ao n c] w fun e w' => e = .returned (.slice ao (min n 4000) c) ∧ w = w' := by
  have hcap := hr.cap
  by_cases h : 4000 < n
  · have q1 : (4000 : Int) ≤ (c : Int) := by omega
    have hm : min n 4000 = 4000 := by omega
    rw [hm]
    clear hr
    go_enter Tryd.func15, Tryd.ntmps15
    go_wp2
    go_ret
    exact ⟨rfl, rfl⟩
  · have hm : min n 4000 = n := by omega
    rw [hm]
    go_enter Tryd.func15, Tryd.ntmps15
    go_wp2
    go_ret
    exact ⟨rfl, rfl⟩
theorem Rd.short {ao : Option Addr} {n c : Nat} {b : List Int} (hr : Rd w ao n c b) : Rd w ao (min n 4000) c (b.take 4000) := by
  have hl := hr.len
  refine ⟨by rw [List.length_take]; omega, by have := hr.cap; omega, hr.nil, ?_, hr.by_.take _⟩
  rcases hr.at_ with h0 | ⟨bb, off, he, hc⟩
  · exact .inl (by omega)
  · exact .inr ⟨bb, off, he, fun i hi => by
      rw [hc i (by omega)]
      congr 2
      simp [List.getD, show i < 4000 by omega]⟩
structure Lp (w wr : World) (B : Nat) (J : Jn) (gc gr n N : Nat) (b : List Int) : Prop where
  ok : J.Ok wr B
  row : Fb wr gc 28 N (rowF gr n N)
  bk : Bk wr gr (cats b N)
  nc : ¬ J.own gc
  nr : ¬ J.own gr
  bel : Below B w wr
theorem Lp.took {wr wr' : World} {J : Jn} {gc gr n N k : Nat} {b : List Int} {o : Out} {e : Ending} (h : Lp w wr B J gc gr n N b) (hB : B ≤ wr.heap.size) (ht : TkOut wr wr' B J k o e) : ∃ (ra : Option Addr) (rn rc : Nat) (g : Option Nat), e = .returned (.tuple #[.slice ra rn rc, .bool o.b.isSome, .int .i64 (o.e : Int)]) ∧ (o.b = none → ra = none ∧ rn = 0 ∧ rc = 0) ∧ (∀ x, o.b = some x → Rd wr' ra rn rc x) ∧ Lp w wr' B (J.put k o.p g) gc gr n N b ∧ B ≤ wr'.heap.size := by
  obtain ⟨ra, rn, rc, g, h1, h2, h3, h4, h5, h6⟩ := ht
  have hgc := h.row.lt
  have hgr := h.bk.lt
  refine ⟨ra, rn, rc, g, h1, h2, fun x hx => ?_, ⟨h4, h.row.keep h5 h.nc, h.bk.keep h5 h.nr, fun hh => ?_, fun hh => ?_, h.bel.trans (h5.below hB (fun j hj hh => ?_))⟩, Nat.le_trans hB h5.size⟩
  · obtain ⟨g', rfl, rfl, rfl, hb, hby, _⟩ := h3 x hx
    exact hb.all _ (Nat.le_refl _) hby
  · rcases h6 _ hh with e1 | e1
    · exact h.nc e1
    · omega
  · rcases h6 _ hh with e1 | e1
    · exact h.nr e1
    · omega
  · have := h.ok.own_lo j hh
    omega
theorem Lp.still {wr wr' : World} {J : Jn} {gc gr n N : Nat} {b : List Int} (h : Lp w wr B J gc gr n N b) (hB : B ≤ wr.heap.size) (hb : Below wr.heap.size wr wr') : Lp w wr' B J gc gr n N b :=
  ⟨h.ok.still hb, h.row.keep (Kept.ofBelow hb (fun _ => False)) id, h.bk.still hb, h.nc, h.nr, h.bel.trans (hb.mono hB)⟩
end
end Go.Proofs.YtmphabgpabbbjaaDoor.Fg
