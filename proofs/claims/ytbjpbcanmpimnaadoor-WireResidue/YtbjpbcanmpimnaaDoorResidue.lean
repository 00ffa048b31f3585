import Derived.Test.YtbjpbcanmpimnaaDoorSums
namespace Go.Proofs.YtbjpbcanmpimnaaDoor.wireResidue
open Go.RowKit Lo Sm
set_option linter.unusedVariables false

theorem nats_lt (bs : List Int) (hr : ∀ i, 0 ≤ bs.getD i 0 ∧ bs.getD i 0 ≤ 255) : ∀ c ∈ nats bs, c < 256 := by
  intro c hc
  obtain ⟨x, hx, rfl⟩ := List.mem_map.1 hc
  obtain ⟨i, hi, rfl⟩ := List.getElem_of_mem hx
  have := hr i
  simp only [List.getD, List.getElem?_eq_getElem hi, Option.getD_some] at this
  omega

def leb (x : Nat) : Nat → List Int
  | 0 => []
  | k + 1 => leb x k ++ [((x / 2 ^ (8 * k) % 256 : Nat) : Int)]
theorem leb_len (x k : Nat) : (leb x k).length = k := by
  induction k with
  | zero => rfl
  | succ k ih => simp [leb, ih]
theorem leb_four (x : Nat) : nats (leb x 4) = Crc.le4 x := by
  simp only [leb, nats, Crc.le4, List.nil_append, List.cons_append, List.map_cons, List.map_nil, Int.toNat_natCast]
  simp
theorem leb_range (bs : List Int) (x k : Nat) (hr : ∀ i, 0 ≤ bs.getD i 0 ∧ bs.getD i 0 ≤ 255) : ∀ i, 0 ≤ (bs ++ leb x k).getD i 0 ∧ (bs ++ leb x k).getD i 0 ≤ 255 := by
  induction k with
  | zero => simpa [leb] using hr
  | succ k ih =>
    intro i
    have h := ih i
    simp only [leb, ← List.append_assoc]
    by_cases hi : i < (bs ++ leb x k).length
    · have e : (bs ++ leb x k ++ [((x / 2 ^ (8 * k) % 256 : Nat) : Int)]).getD i 0 = (bs ++ leb x k).getD i 0 := by simp only [List.getD, List.getElem?_append_left hi]
      rw [e]; exact h
    · by_cases he : i = (bs ++ leb x k).length
      · have e : (bs ++ leb x k ++ [((x / 2 ^ (8 * k) % 256 : Nat) : Int)]).getD i 0 = ((x / 2 ^ (8 * k) % 256 : Nat) : Int) := by rw [he]; simp [List.getD]
        rw [e]; omega
      · have e : (bs ++ leb x k ++ [((x / 2 ^ (8 * k) % 256 : Nat) : Int)]).getD i 0 = 0 := by
          simp only [List.getD]; rw [List.getElem?_eq_none (by rw [List.length_append]; simp only [List.length_singleton]; omega)]; rfl
        rw [e]; omega
theorem own_leb {w' : World} {base k n : Nat} {v' : Value} {bs : List Int} {x : Nat} {c : Int} (hc : c = ((x / 2 ^ (8 * k) % 256 : Nat) : Int)) (hn : n = bs.length + k + 1) (h : w'.ownsRow base 5 1 v' n (bs.map (Value.int .u8) ++ ((leb x k).map (Value.int .u8) ++ [.int .u8 c]))) : Own w' base v' (bs ++ leb x (k + 1)) := by
  unfold Own
  subst hc
  subst hn
  simp only [leb]
  simpa [leb_len, Nat.add_assoc] using h

theorem cast_byte (s k : Nat) : (s : Int) / 2 ^ (8 * k) % 256 = ((s / 2 ^ (8 * k) % 256 : Nat) : Int) := by
  rw [Int.natCast_emod, Int.natCast_ediv, Int.natCast_pow]; rfl

theorem rd_any {w : World} {base : Nat} {v : Value} {bs : List Int} (h : Own w base v bs) (hr : ∀ i, 0 ≤ bs.getD i 0 ∧ bs.getD i 0 ≤ 255) : ∃ ao cap m, v = .slice ao m cap ∧ m = bs.length ∧ Rd w ao m cap bs := by
  obtain ⟨ao, cap, h1, h2⟩ := h.rdAny hr
  exact ⟨ao, cap, _, h1, rfl, h2⟩

set_option maxHeartbeats 2000000 in
theorem core (ao : Option Addr) (cap : Nat) (bs : List Int) (w : World) (hr : Rd w ao bs.length cap bs) (hlen : bs.length ≤ 140737488351232) (hT : Tab w) :
    Calls Tryd.prog 4 #[.slice ao bs.length cap] w fun e w' => e = .returned (.bool true) ∧ Below w.heap.size w w' := by
  obtain ⟨i0, hi, hz0, hz1, hz2⟩ := info_parts info_u8
  have Hr : Hid (Rd w ao bs.length cap bs) := hr
  have HT : Hid (Tab w) := hT
  have hcl := Crc.crc_lt (nats bs) (nats_lt bs hr.2.2.2)
  have hres := Crc.residue (nats bs) (nats_lt bs hr.2.2.2)
  obtain ⟨s, hs⟩ : ∃ s, s = Crc.crc (nats bs) := ⟨_, rfl⟩
  rw [← hs] at hcl hres
  have HRES : Hid ((558161692 : Int) = ((Crc.crc (nats (bs ++ leb s 4)) : Nat) : Int)) := by
    have e : nats (bs ++ leb s 4) = nats bs ++ Crc.le4 s := by rw [← leb_four]; simp [nats]
    show (558161692 : Int) = ((Crc.crc (nats (bs ++ leb s 4)) : Nat) : Int)
    rw [e, hres]; rfl
  have HS : Hid ((s : Int) = ((Crc.crc (nats bs) : Nat) : Int)) := by show (s : Int) = ((Crc.crc (nats bs) : Nat) : Int); rw [hs]
  clear hr hT hs hres
  have hb1' : decide ((s : Int) < 0) = false := by simp
  have hb2 : decide ((4294967295 : Int) < (s : Int)) = false := by simp; omega
  go_enter Tryd.func4, Tryd.ntmps4
  go_wp2_with fail
  refine (wireSums.sum_eq _ _ _ bs _ Hr.out (by omega) HT.out (s : Int) HS.out).mono ?_
  rintro e w' ⟨rfl, rfl⟩
  go_wp2_with fail
  refine (copied_any _ _ _ bs _ Hr.out (by omega)).mono ?_
  rintro e w1 ⟨v1, rfl, ho1, hb1⟩
  have Ho1 : Hid (Own w1 w.heap.size v1 bs) := ho1
  have Hb1 : Hid (Below w.heap.size w w1) := hb1
  clear ho1 hb1
  go_wp2_with fail
  go_loopw [4, 5] (fun v i wr => ∃ k : Nat, k ≤ 4 ∧ i = .int .i64 k ∧ Own wr w.heap.size v (bs ++ leb s k) ∧ Below w.heap.size w wr) (fun _ i _ => 4 - (intOf i).toNat)
  case atStart => exact ⟨0, Nat.zero_le _, rfl, by simpa [leb] using Ho1.out, Hb1⟩
  case round =>
    obtain ⟨k, hk, rfl, ho, hbel⟩ := hrel
    have hll := leb_len s k
    by_cases hlt : k < 4
    · obtain ⟨c, hc⟩ : ∃ c : Int, c = ((s / 2 ^ (8 * k) % 256 : Nat) : Int) := ⟨_, rfl⟩
      have hcc : (s : Int) / 2 ^ (8 * k) % 256 = c := by rw [hc]; exact cast_byte s k
      have HC : Hid (c = ((s / 2 ^ (8 * k) % 256 : Nat) : Int)) := hc
      clear hc
      go_wp2_with (first
        | (at_builtin; refine wpList_append_own _ rfl _ _ 22 rfl w.heap.size 5 i0 (.int .u8 0) 1 1 Tryd.underlying22 hi hz0 hz1 hz2 rfl (by decide) _ _ _ rfl (ho.alloc _) ⟨wr.heap.size, 0, none⟩ 1 1 [.int .u8 c] rfl rfl ?d1 ?d2 ?d3 ?d4 ?d5 ?_)
        | fail)
      case d1 => exact cell_one_new _ _ _
      case d2 => intro x hx; simp at hx; subst hx; rfl
      case d3 => simp [leb_len]; unfold maxLen; omega
      case d4 => simp [leb_len]; omega
      case d5 => have := hbel.size; simp; omega
      intro v3 w3 hown3 hgrow3 _
      have HO3 : Hid (Own w3 w.heap.size v3 (bs ++ leb s (k + 1))) := own_leb HC (by omega) hown3
      have HB3 : Hid (Below w.heap.size w w3) := below_push hbel (by have := hbel.size; omega) ho hgrow3
      clear hown3 hgrow3 ho hbel
      go_wp2
      go_roundw
      case rel => exact ⟨k + 1, by omega, by go_num, HO3, HB3⟩
      case measure => simp [intOf]; omega
    · obtain rfl : k = 4 := by omega
      obtain ⟨a4, c4, m4, rfl, hm4, hrd⟩ := rd_any ho (leb_range bs s 4 Hr.out.2.2.2)
      have Hrd : Hid (Rd wr a4 m4 c4 (bs ++ leb s 4)) := hrd
      have HB : Hid (Below w.heap.size w wr) := hbel
      have HT4 : Hid (Tab wr) := wireSums.tab_below HT.out hbel
      have hl4 : m4 ≤ bs.length + 4 := by rw [hm4, List.length_append, hll]; omega
      clear hrd ho hbel hll hm4
      go_wp2_with fail
      refine (wireSums.sum_eq _ _ _ _ _ Hrd.out (by omega) HT4.out 558161692 HRES.out).mono ?_
      rintro e w' ⟨rfl, rfl⟩
      go_wp2_with fail
      go_ret
      exact ⟨rfl, HB⟩
end Go.Proofs.YtbjpbcanmpimnaaDoor.wireResidue
