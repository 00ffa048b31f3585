import Derived.Test.YtihcaopcfhbofaaX24
namespace Go.Proofs.Ytihcaopcfhbofaa.Fm
open Go.RowKit Go.Maps Mb
set_option linter.unusedVariables false
set_option maxRecDepth 100000
set_option linter.unusedSimpArgs false
section
variable {w w' W : World} {B : Nat}
def byts (bs : List Int) : List Value := bs.map (Value.int .u8)
theorem byts_len (bs : List Int) : (byts bs).length = bs.length := by simp [byts]
theorem byts_one (bs : List Int) : ∀ u ∈ byts bs, u.oneCell' = true := by
  intro u hu
  obtain ⟨_, _, rfl⟩ := List.mem_map.1 hu
  rfl
theorem byts_at (bs : List Int) (i : Nat) (h : i < bs.length) : (byts bs)[i]? = some (.int .u8 (bs.getD i 0)) := by simp [byts, List.getD, h]
theorem rdB_news {ao : Option Addr} {bs : List Int} (h : RdB w ao bs) : ∀ ad, ao = some ad → ∀ j u, (byts bs)[j]? = some u → w.cell? (ad.add j) = some u := fun ad he j u hu => by
  have hj : j < bs.length := by have := (List.getElem?_eq_some_iff.1 hu).1; rwa [byts_len] at this
  rcases h with h | ⟨b, off, h1, h2⟩
  · omega
  · rw [h1] at he
    cases he
    rw [Addr.add_mid, h2 j (by omega)]
    rw [byts_at bs j hj] at hu
    exact hu
theorem byte_info : ∃ i : TypeInfo, Try.prog.info? 5 = some i ∧ i.zero = some (.int .u8 0) ∧ i.size = 1 ∧ i.bytes = 1 := by
  have h : (Try.prog.info? 5).map (fun i => (i.zero, i.size, i.bytes)) = some (some (.int .u8 0), 1, 1) := by kernel_rfl
  cases hq : Try.prog.info? 5 with
  | none => rw [hq] at h; cases h
  | some i => rw [hq] at h; simp at h; exact ⟨i, rfl, h.1, h.2.1, h.2.2⟩
set_option maxHeartbeats 1000000 in
theorem copied_any {ao : Option Addr} {c : Nat} {bs : List Int} (hr : RdB w ao bs) (hz : ao = none → bs.length = 0 ∧ c = 0) (hn : bs.length ≤ 1048576) : Calls Try.prog 31 #[.slice ao bs.length c] w fun e w' => ∃ a1 c1, e = .returned (.slice a1 bs.length c1) ∧ w'.ownsRow w.heap.size 5 1 (.slice a1 bs.length c1) bs.length (byts bs) ∧ Below w.heap.size w w' := by
  have HN : Hid (∀ ad, ao = some ad → ∀ j u, (byts bs)[j]? = some u → w.cell? (ad.add j) = some u) := rdB_news hr
  have Hz : Hid (ao = none → bs.length = 0 ∧ c = 0) := hz
  have Hl : Hid ((byts bs).length = bs.length * 1) := (show _ = _ from by rw [byts_len, Nat.mul_one])
  have H1 : Hid (∀ u ∈ byts bs, u.oneCell' = true) := byts_one bs
  have Hnil : Hid (bs.length = 0 → byts bs = []) := fun h => by rw [List.eq_nil_of_length_eq_zero h]; rfl
  obtain ⟨si, shi, shz0, shz1, shz2⟩ := byte_info
  clear hr hz
  generalize byts bs = bv at *
  generalize bs.length = n at *
  have h0 : w.ownsRow w.heap.size 5 1 (.slice none 0 0) 0 [] := ⟨rfl, .inl ⟨rfl, rfl⟩⟩
  cases ao with
  | none =>
    obtain ⟨rfl, rfl⟩ := Hz.out rfl
    obtain rfl : bv = [] := Hnil.out rfl
    go_enter Try.func31, Try.ntmps31
    go_wp2_with (first | (at_builtin; refine wpList_append_own_none rfl _ _ 35 rfl w.heap.size 5 si 1 Try.underlying35 shi (.slice none 0 0) 0 [] rfl h0 rfl ?_) | fail)
    go_ret
    exact ⟨none, 0, rfl, h0, Below.refl _ _⟩
  | some ad =>
    go_enter Try.func31, Try.ntmps31
    go_wp2_with (first | (at_builtin; refine wpList_append_own _ rfl _ _ 35 rfl w.heap.size 5 si (.int .u8 0) 1 1 Try.underlying35 shi shz0 shz1 shz2 rfl (by omega) (.slice none 0 0) 0 [] rfl h0 ad n c bv rfl Hl.out (HN.out ad rfl) H1.out (by unfold maxLen; omega) (by omega) (Nat.le_refl _) ?_; intro v' w' h2 h3 _) | fail)
    simp only [Nat.zero_add, List.nil_append] at h2
    have hb2 : Below w.heap.size w w' := (Below.refl _ _).grown h3 (Nat.le_refl _) (fun k hk => by simp [Value.ownBlock] at hk)
    obtain ⟨a1, c1, rfl⟩ : ∃ a1 c1, v' = Value.slice a1 n c1 := by
      rcases h2.2 with ⟨h3, h4⟩ | ⟨g, cap, cur, hv, _⟩
      · exact ⟨none, 0, by rw [h4]; exact h3⟩
      · exact ⟨_, _, hv⟩
    go_wp2
    go_ret
    exact ⟨a1, c1, rfl, h2, hb2⟩
end
end Go.Proofs.Ytihcaopcfhbofaa.Fm
