import Derived.Test.YtbjpbcanmpimnaaDoorSums
import Derived.Lib.SlBytesConst
import Derived.Deep.RegionHeld3
import Derived.Deep.AppendLies
namespace Go.Proofs.YtbjpbcanmpimnaaDoor.wireLinear
open Go.RowKit Lo Sm
set_option linter.unusedVariables false

def chk : List Int := [49, 50, 51, 52, 53, 54, 55, 56, 57]
def chkObj : Obj := .cells #[.int .u8 49, .int .u8 50, .int .u8 51, .int .u8 52, .int .u8 53, .int .u8 54, .int .u8 55, .int .u8 56, .int .u8 57] 5 (9, 10)
theorem chk_rd (w : World) : Rd (w.alloc chkObj) (some ⟨w.heap.size, 0, none⟩) 9 9 chk := by
  refine ⟨rfl, by simp, .inr ⟨w.heap.size, 0, rfl, fun i hi => ?_⟩, fun i => ?_⟩
  · rw [Nat.zero_add, cell_of_row (w.alloc chkObj) w.heap.size i _ 5 (9, 10) (heap_alloc_new w _)]
    have : ∀ i : Fin 9, (#[Value.int .u8 49, .int .u8 50, .int .u8 51, .int .u8 52, .int .u8 53, .int .u8 54, .int .u8 55, .int .u8 56, .int .u8 57] : Array Value)[i.val]? = some (.int .u8 (chk.getD i.val 0)) := by
      intro i
      match i with
      | 0 | 1 | 2 | 3 | 4 | 5 | 6 | 7 | 8 => rfl
    exact this ⟨i, hi⟩
  · by_cases h : i < 9
    · have : ∀ i : Fin 9, 0 ≤ chk.getD i.val 0 ∧ chk.getD i.val 0 ≤ 255 := by decide
      exact this ⟨i, h⟩
    · have : chk.getD i 0 = 0 := by simp only [List.getD]; rw [List.getElem?_eq_none (by simp [chk]; omega)]; rfl
      omega
theorem chk_sum : (3421780262 : Int) = ((Crc.crc (nats chk) : Nat) : Int) := by
  have : nats chk = [49, 50, 51, 52, 53, 54, 55, 56, 57] := by decide
  rw [this, Crc.crc_check]; rfl

theorem min_eq (nA nB nC : Nat) : ∃ N : Nat, N ≤ nA ∧ N ≤ nB ∧ N ≤ nC ∧ (if (nC : Int) < (if nB < nA then (nB : Int) else (nA : Int)) then (nC : Int) else if nB < nA then (nB : Int) else (nA : Int)) = (N : Int) := by
  by_cases h : nB < nA
  · by_cases h2 : nC < nB
    · exact ⟨nC, by omega, by omega, by omega, by rw [if_pos h, if_pos (by omega)]⟩
    · exact ⟨nB, by omega, by omega, by omega, by rw [if_pos h, if_neg (by omega)]⟩
  · by_cases h2 : nC < nA
    · exact ⟨nC, by omega, by omega, by omega, by rw [if_neg h, if_pos (by omega)]⟩
    · exact ⟨nA, by omega, by omega, by omega, by rw [if_neg h, if_neg (by omega)]⟩

def mx (A B C : List Int) (k : Nat) : Int := bits .xor .u8 (bits .xor .u8 (A.getD k 0) (B.getD k 0)) (C.getD k 0)
def mix (A B C : List Int) : Nat → List Int
  | 0 => []
  | k + 1 => mix A B C k ++ [mx A B C k]
theorem mix_len (A B C : List Int) (k : Nat) : (mix A B C k).length = k := by
  induction k with
  | zero => rfl
  | succ k ih => simp [mix, ih]
theorem mix_range (A B C : List Int) (k : Nat) : ∀ i, 0 ≤ (mix A B C k).getD i 0 ∧ (mix A B C k).getD i 0 ≤ 255 := by
  induction k with
  | zero => simp [mix]
  | succ k ih =>
    intro i
    have h := ih i
    simp only [mix]
    by_cases hi : i < (mix A B C k).length
    · have e : (mix A B C k ++ [mx A B C k]).getD i 0 = (mix A B C k).getD i 0 := by simp only [List.getD, List.getElem?_append_left hi]
      rw [e]; exact h
    · by_cases he : i = (mix A B C k).length
      · have e : (mix A B C k ++ [mx A B C k]).getD i 0 = mx A B C k := by rw [he]; simp [List.getD]
        rw [e]; exact u8_range _ _ _
      · have e : (mix A B C k ++ [mx A B C k]).getD i 0 = 0 := by
          simp only [List.getD]; rw [List.getElem?_eq_none (by rw [List.length_append]; simp only [List.length_singleton]; omega)]; rfl
        rw [e]; omega
theorem zip3_snoc (a b c : List Nat) (x y z : Nat) (h1 : a.length = b.length) (h2 : b.length = c.length) : Crc.zip3 (a ++ [x]) (b ++ [y]) (c ++ [z]) = Crc.zip3 a b c ++ [Crc.x3 x y z] := by
  induction a generalizing b c with
  | nil =>
    obtain rfl : b = [] := List.eq_nil_of_length_eq_zero (by simpa using h1.symm)
    obtain rfl : c = [] := List.eq_nil_of_length_eq_zero (by simpa using h2.symm)
    rfl
  | cons p a ih =>
    match b, c, h1, h2 with
    | q :: b, r :: c, h1, h2 =>
      simp only [List.cons_append, Crc.zip3]
      rw [ih b c (by simpa using h1) (by simpa using h2)]
theorem nats_take (A : List Int) (k : Nat) (hk : k < A.length) : nats (A.take (k + 1)) = nats (A.take k) ++ [(A.getD k 0).toNat] := by
  have h1 : A.getD k 0 = A[k] := by simp [List.getD, hk]
  unfold nats
  rw [h1, List.take_succ_eq_append_getElem hk, List.map_append]
  rfl
theorem mix_nats (A B C : List Int) (hA : ∀ i, 0 ≤ A.getD i 0 ∧ A.getD i 0 ≤ 255) (hB : ∀ i, 0 ≤ B.getD i 0 ∧ B.getD i 0 ≤ 255) (hC : ∀ i, 0 ≤ C.getD i 0 ∧ C.getD i 0 ≤ 255) (k : Nat) (h1 : k ≤ A.length) (h2 : k ≤ B.length) (h3 : k ≤ C.length) :
    nats (mix A B C k) = Crc.zip3 (nats (A.take k)) (nats (B.take k)) (nats (C.take k)) := by
  induction k with
  | zero => simp [mix, nats, Crc.zip3]
  | succ k ih =>
    rw [nats_take A k (by omega), nats_take B k (by omega), nats_take C k (by omega), zip3_snoc _ _ _ _ _ _ (by simp [nats]; omega) (by simp [nats]; omega), ← ih (by omega) (by omega) (by omega)]
    have e : (mx A B C k).toNat = Crc.x3 (A.getD k 0).toNat (B.getD k 0).toNat (C.getD k 0).toNat := by
      have a := hA k
      have b := hB k
      have c := hC k
      unfold mx Crc.x3
      have hx : (A.getD k 0).toNat ^^^ (B.getD k 0).toNat < 256 := Nat.xor_lt_two_pow (n := 8) (by omega) (by omega)
      rw [u8_xor (A.getD k 0) (B.getD k 0) (by omega) (by omega) (by omega) (by omega), u8_xor _ (C.getD k 0) (by omega) (by omega) (by omega) (by omega)]
      simp
    simp [mix, nats, e]
theorem mix_sum (A B C : List Int) (hA : ∀ i, 0 ≤ A.getD i 0 ∧ A.getD i 0 ≤ 255) (hB : ∀ i, 0 ≤ B.getD i 0 ∧ B.getD i 0 ≤ 255) (hC : ∀ i, 0 ≤ C.getD i 0 ∧ C.getD i 0 ≤ 255) (k : Nat) (h1 : k ≤ A.length) (h2 : k ≤ B.length) (h3 : k ≤ C.length) :
    Crc.crc (nats (mix A B C k)) = Crc.crc (nats (A.take k)) ^^^ Crc.crc (nats (B.take k)) ^^^ Crc.crc (nats (C.take k)) := by
  rw [mix_nats A B C hA hB hC k h1 h2 h3]
  exact Crc.crc_x3 _ _ _ (by simp [nats]; omega) (by simp [nats]; omega)

theorem own_mix {w' : World} {base k n : Nat} {v' : Value} {A B C : List Int} {c : Int} (hc : c = mx A B C k) (hn : n = k + 1) (h : w'.ownsRow base 5 1 v' n ((mix A B C k).map (Value.int .u8) ++ [.int .u8 c])) : Own w' base v' (mix A B C (k + 1)) := by
  unfold Own
  subst hc
  subst hn
  simp only [mix]
  simpa [mix_len] using h

theorem rd_any {w : World} {base : Nat} {v : Value} {bs : List Int} (h : Own w base v bs) (hr : ∀ i, 0 ≤ bs.getD i 0 ∧ bs.getD i 0 ≤ 255) : ∃ ao cap m, v = .slice ao m cap ∧ m = bs.length ∧ Rd w ao m cap bs := by
  obtain ⟨ao, cap, h1, h2⟩ := h.rdAny hr
  exact ⟨ao, cap, _, h1, rfl, h2⟩

theorem nats_lt (bs : List Int) (hr : ∀ i, 0 ≤ bs.getD i 0 ∧ bs.getD i 0 ≤ 255) : ∀ c ∈ nats bs, c < 256 := by
  intro c hc
  obtain ⟨x, hx, rfl⟩ := List.mem_map.1 hc
  obtain ⟨i, hi, rfl⟩ := List.getElem_of_mem hx
  have := hr i
  simp only [List.getD, List.getElem?_eq_getElem hi, Option.getD_some] at this
  omega

theorem _root_.Go.Proofs.YtbjpbcanmpimnaaDoor.Lo.Rd.take {w : World} {ao : Option Addr} {len cap : Nat} {bs : List Int} {k : Nat} (h : Rd w ao len cap bs) (hk : k ≤ len) : Rd w ao k cap (bs.take k) := by
  obtain ⟨h1, h2, h3, h4⟩ := h
  refine ⟨by rw [List.length_take]; omega, fun e => ?_, ?_, fun i => ?_⟩
  · have := h2 e; omega
  · rcases h3 with h | ⟨b, off, h, hc⟩
    · exact .inl (by omega)
    · refine .inr ⟨b, off, h, fun i hi => ?_⟩
      rw [hc i (by omega)]
      simp [List.getD, hi]
  · by_cases hi : i < k
    · have e : (bs.take k).getD i 0 = bs.getD i 0 := by simp [List.getD, hi]
      rw [e]; exact h4 i
    · have e : (bs.take k).getD i 0 = 0 := by simp only [List.getD]; rw [List.getElem?_eq_none (by rw [List.length_take]; omega)]; rfl
      rw [e]; omega

theorem sum_same (ao : Option Addr) (len cap q : Nat) (bs : List Int) (w : World) (hr : Rd w ao len cap bs) (hlen : len ≤ 140737488355328) (hT : Tab w) (S : Int) (hS : S = ((Crc.crc (nats bs) : Nat) : Int)) :
    Calls Tryd.prog 6 #[.slice ao len cap] (w.drewN q) fun e w' => e = .returned (.int .i64 S) ∧ w' = w.drewN q := by
  have hb : Below w.heap.size w (w.drewN q) := below_drewN (Below.refl _ _) q
  rw [hS]; exact sum_any ao len cap bs _ (hr.below hb) hlen (wireSums.tab_below hT hb)

set_option maxRecDepth 100000 in
set_option maxHeartbeats 4000000 in
theorem core_some (bA oA bB oB bC oC nA nB nC cA cB cC : Nat) (A B C : List Int) (w : World) (hA : Rd w (some ⟨bA, oA, none⟩) nA cA A) (hB : Rd w (some ⟨bB, oB, none⟩) nB cB B) (hC : Rd w (some ⟨bC, oC, none⟩) nC cC C) (lA : nA ≤ 140737488351232) (lB : nB ≤ 140737488351232) (lC : nC ≤ 140737488351232)
    (kA : nA ≤ cA) (kB : nB ≤ cB) (kC : nC ≤ cC) (hT : Tab w) (N : Nat) (hN0 : 0 < N) (hNA : N ≤ nA) (hNB : N ≤ nB) (hNC : N ≤ nC) (hN : (if (nC : Int) < (if nB < nA then (nB : Int) else (nA : Int)) then (nC : Int) else if nB < nA then (nB : Int) else (nA : Int)) = (N : Int))
    (fA : ∀ i, i < nA → w.cell? ⟨bA, oA + i, none⟩ = some (.int .u8 (A.getD i 0))) (fB : ∀ i, i < nB → w.cell? ⟨bB, oB + i, none⟩ = some (.int .u8 (B.getD i 0))) (fC : ∀ i, i < nC → w.cell? ⟨bC, oC + i, none⟩ = some (.int .u8 (C.getD i 0))) :
    Calls Tryd.prog 3 #[.slice (some ⟨bA, oA, none⟩) nA cA, .slice (some ⟨bB, oB, none⟩) nB cB, .slice (some ⟨bC, oC, none⟩) nC cC] w fun e w' => e = .returned (.bool true) ∧ Below w.heap.size w w' := by
  obtain ⟨i0, hi, hz0, hz1, hz2⟩ := info_parts info_u8
  have HA : Hid (Rd w (some ⟨bA, oA, none⟩) nA cA A) := hA
  have HB : Hid (Rd w (some ⟨bB, oB, none⟩) nB cB B) := hB
  have HC : Hid (Rd w (some ⟨bC, oC, none⟩) nC cC C) := hC
  have HT : Hid (Tab w) := hT
  have FA : Hid (∀ i, i < nA → w.cell? ⟨bA, oA + i, none⟩ = some (.int .u8 (A.getD i 0))) := fA
  have FB : Hid (∀ i, i < nB → w.cell? ⟨bB, oB + i, none⟩ = some (.int .u8 (B.getD i 0))) := fB
  have FC : Hid (∀ i, i < nC → w.cell? ⟨bC, oC + i, none⟩ = some (.int .u8 (C.getD i 0))) := fC
  clear hA hB hC hT fA fB fC
  have kc := fun (w : World) (C : Array Value) (n c : Nat) => Lib.run_convert_bytes_const (P := Tryd.prog) w 22 5 C n c Tryd.underlying22 Tryd.underlying5
  go_enter Tryd.func3, Tryd.ntmps3
  go_wp2_with fail
  clear kc
  refine (wireSums.sum_eq _ _ _ chk _ (chk_rd w) (by omega) (wireSums.tab_below HT.out ((Below.refl _ _).alloc (Nat.le_refl _) _)) 3421780262 chk_sum).mono ?_
  rintro e w' ⟨rfl, rfl⟩
  go_wp2_with fail
  clear hN
  go_loopw [8, 9] (fun v i wr => ∃ k : Nat, k ≤ N ∧ i = .int .i64 k ∧ Own wr w.heap.size v (mix A B C k) ∧ Below w.heap.size w wr) (fun _ i _ => N - (intOf i).toNat)
  case atStart => exact ⟨0, Nat.zero_le _, rfl, World.ownsRow_nil _ _ _ _, (Below.refl _ _).alloc (Nat.le_refl _) _⟩
  case round =>
    obtain ⟨k, hk, rfl, ho, hbel⟩ := hrel
    have hml := mix_len A B C k
    by_cases hlt : k < N
    · have gA := FA.out k (by omega)
      have gB := FB.out k (by omega)
      have gC := FC.out k (by omega)
      have qA := World.block_lt_of_cell? w _ gA
      have qB := World.block_lt_of_cell? w _ gB
      have qC := World.block_lt_of_cell? w _ gC
      have eA : wr.cell? ⟨bA, oA + k, none⟩ = some (.int .u8 (A.getD k 0)) := (hbel.cell qA).trans gA
      have eB : wr.cell? ⟨bB, oB + k, none⟩ = some (.int .u8 (B.getD k 0)) := (hbel.cell qB).trans gB
      have eC : wr.cell? ⟨bC, oC + k, none⟩ = some (.int .u8 (C.getD k 0)) := (hbel.cell qC).trans gC
      obtain ⟨c, hc⟩ : ∃ c, c = mx A B C k := ⟨_, rfl⟩
      have hcx : bits .xor .u8 (bits .xor .u8 (A.getD k 0) (B.getD k 0)) (C.getD k 0) = c := hc.symm
      have Hc : Hid (c = mx A B C k) := hc
      clear hc gA gB gC
      generalize A.getD k 0 = x at *
      generalize B.getD k 0 = y at *
      generalize C.getD k 0 = z at *
      have i1 : (0 : Int) ≤ (k : Int) := Int.natCast_nonneg _
      have i2 : (k : Int) < (nA : Int) := by omega
      have i3 : (k : Int) < (nB : Int) := by omega
      have i4 : (k : Int) < (nC : Int) := by omega
      have hsz := hbel.size
      simp at qA qB qC
      have Hho : Hid (Own wr w.heap.size u8 (mix A B C k)) := ho
      have Hbel : Hid (Below w.heap.size w wr) := hbel
      clear hbel
      go_wp2_with fail
      go_region_held3 (fun w' => w'.cell? ⟨bA, oA + k, none⟩ = some (.int .u8 x) ∧ w'.cell? ⟨bB, oB + k, none⟩ = some (.int .u8 y) ∧ w'.cell? ⟨bC, oC + k, none⟩ = some (.int .u8 z))
        (first
          | go_keep
          | (go_split_ands
             refine ⟨?_, ?_, ?_⟩
             · (rw [hgrow.cell_far _ (by simp; omega) (fun h => by have := Hho.out.lt _ h.symm; simp at this; omega)]; assumption)
             · (rw [hgrow.cell_far _ (by simp; omega) (fun h => by have := Hho.out.lt _ h.symm; simp at this; omega)]; assumption)
             · (rw [hgrow.cell_far _ (by simp; omega) (fun h => by have := Hho.out.lt _ h.symm; simp at this; omega)]; assumption)))
        ((refine step_append_lies _ (by rfl) _ _ _ (by rfl) w.heap.size 5 i0 _ 1 1 Tryd.underlying22 hi hz0 hz1 hz2 rfl (by omega) u8 _ _ (by rfl) ((Hho.out.alloc _).drew)
            ⟨wr.heap.size, 0, none⟩ 1 1 [.int .u8 c] (by rfl) (by rfl) (World.news_of_block (cs := #[.int .u8 c]) (t := 5) (fr := (0, 0)) (heap_alloc_new wr _)) (by simp [Value.oneCell'])
            (by omega) (by rw [hml]; unfold maxLen; omega) (by rw [hml]; omega) (by simp; omega) (wr.heap.size + 1) (by simp) ?_; intro gg cap w1 hown1 hgrow hat hgl))
      rw [hml] at hown1
      have HO : Hid (Own w1 w.heap.size (.slice (some ⟨gg, 0, none⟩) (k + 1) cap) (mix A B C (k + 1))) := own_mix Hc rfl hown1
      have HB1 : Hid (Below w.heap.size w w1) := ((Hbel.out.alloc hsz _).drew).grown hgrow (by simp; omega) (fun r hr => (Hho.out.lt r hr).1)
      clear hown1 hgrow hat hgl ho Hho Hbel
      go_wp2
      go_roundw
      case rel => exact ⟨k + 1, by omega, by go_num, HO, HB1⟩
      case measure => simp [intOf]; omega
    · obtain rfl : k = N := by omega
      obtain ⟨aD, cD, mD, rfl, hmD, hrD⟩ := rd_any ho (mix_range A B C k)
      have HD : Hid (Rd wr aD mD cD (mix A B C k)) := hrD
      have HBl : Hid (Below w.heap.size w wr) := hbel
      have HT1 : Hid (Tab wr) := wireSums.tab_below HT.out hbel
      have HA1 : Hid (Rd wr (some ⟨bA, oA, none⟩) k cA (A.take k)) := (HA.out.below hbel).take hNA
      have HB1 : Hid (Rd wr (some ⟨bB, oB, none⟩) k cB (B.take k)) := (HB.out.below hbel).take hNB
      have HC1 : Hid (Rd wr (some ⟨bC, oC, none⟩) k cC (C.take k)) := (HC.out.below hbel).take hNC
      have hmk : mD = k := by rw [hmD, hml]
      obtain ⟨SA, hSA⟩ : ∃ S : Nat, S = Crc.crc (nats (A.take k)) := ⟨_, rfl⟩
      obtain ⟨SB, hSB⟩ : ∃ S : Nat, S = Crc.crc (nats (B.take k)) := ⟨_, rfl⟩
      obtain ⟨SC, hSC⟩ : ∃ S : Nat, S = Crc.crc (nats (C.take k)) := ⟨_, rfl⟩
      have hSD : ((SA ^^^ SB ^^^ SC : Nat) : Int) = ((Crc.crc (nats (mix A B C k)) : Nat) : Int) := by
        rw [mix_sum A B C HA.out.2.2.2 HB.out.2.2.2 HC.out.2.2.2 k (by have := HA.out.1; omega) (by have := HB.out.1; omega) (by have := HC.out.1; omega), hSA, hSB, hSC]
      have lSA : SA < 4294967296 := by rw [hSA]; exact Crc.crc_lt _ (nats_lt _ HA1.out.2.2.2)
      have lSB : SB < 4294967296 := by rw [hSB]; exact Crc.crc_lt _ (nats_lt _ HB1.out.2.2.2)
      have lSC : SC < 4294967296 := by rw [hSC]; exact Crc.crc_lt _ (nats_lt _ HC1.out.2.2.2)
      have lAB : SA ^^^ SB < 4294967296 := Nat.xor_lt_two_pow (n := 32) lSA lSB
      have x1 : bits .xor .i64 (SA : Int) (SB : Int) = ((SA ^^^ SB : Nat) : Int) := i64_xor_nat SA SB (by omega) (by omega)
      obtain ⟨T, hTe⟩ : ∃ T, T = SA ^^^ SB := ⟨_, rfl⟩
      rw [← hTe] at x1 hSD lAB
      have x2 : bits .xor .i64 (T : Int) (SC : Int) = ((T ^^^ SC : Nat) : Int) := i64_xor_nat T SC (by omega) (by omega)
      obtain ⟨U, hU⟩ : ∃ U, U = T ^^^ SC := ⟨_, rfl⟩
      rw [← hU] at x2 hSD
      have HSA : Hid ((SA : Int) = ((Crc.crc (nats (A.take k)) : Nat) : Int)) := by show (SA : Int) = ((Crc.crc (nats (A.take k)) : Nat) : Int); rw [hSA]
      have HSB : Hid ((SB : Int) = ((Crc.crc (nats (B.take k)) : Nat) : Int)) := by show (SB : Int) = ((Crc.crc (nats (B.take k)) : Nat) : Int); rw [hSB]
      have HSC : Hid ((SC : Int) = ((Crc.crc (nats (C.take k)) : Nat) : Int)) := by show (SC : Int) = ((Crc.crc (nats (C.take k)) : Nat) : Int); rw [hSC]
      have HSD : Hid ((U : Int) = ((Crc.crc (nats (mix A B C k)) : Nat) : Int)) := hSD
      subst hmk
      clear hSA hSB hSC hSD hTe hU hrD ho hbel hml hmD
      have j1 : (0 : Int) ≤ (mD : Int) := Int.natCast_nonneg _
      have j2 : (mD : Int) ≤ (cA : Int) := by omega
      have j3 : (mD : Int) ≤ (cB : Int) := by omega
      have j4 : (mD : Int) ≤ (cC : Int) := by omega
      go_wp2_with fail
      go_quiet ((first
        | (go_at_call_of 6 (Value.slice aD mD cD); exact Calls.quiet_of_same (sum_same _ _ _ _ _ _ HD.out (by omega) HT1.out _ HSD.out))
        | (go_at_call_of 6 (Value.slice (some ⟨bA, oA, none⟩) mD cA); exact Calls.quiet_of_same (sum_same _ _ _ _ _ _ HA1.out (by omega) HT1.out _ HSA.out))
        | (go_at_call_of 6 (Value.slice (some ⟨bB, oB, none⟩) mD cB); exact Calls.quiet_of_same (sum_same _ _ _ _ _ _ HB1.out (by omega) HT1.out _ HSB.out))
        | (go_at_call_of 6 (Value.slice (some ⟨bC, oC, none⟩) mD cC); exact Calls.quiet_of_same (sum_same _ _ _ _ _ _ HC1.out (by omega) HT1.out _ HSC.out))))
      go_wp2
      go_ret
      exact ⟨rfl, below_drewN HBl.out _⟩

theorem sum_zero (ao : Option Addr) (cap q : Nat) (w : World) : Calls Tryd.prog 6 #[.slice ao 0 cap] (w.drewN q) fun e w' => e = .returned (.int .i64 0) ∧ w' = w.drewN q :=
  sum_none ao cap (w.drewN q)

set_option maxRecDepth 100000 in
set_option maxHeartbeats 4000000 in
theorem core_zero (aA aB aC : Option Addr) (nA nB nC cA cB cC : Nat) (w : World) (kA : nA ≤ cA) (kB : nB ≤ cB) (kC : nC ≤ cC) (hT : Tab w)
    (hN : (if (nC : Int) < (if nB < nA then (nB : Int) else (nA : Int)) then (nC : Int) else if nB < nA then (nB : Int) else (nA : Int)) = 0) :
    Calls Tryd.prog 3 #[.slice aA nA cA, .slice aB nB cB, .slice aC nC cC] w fun e w' => e = .returned (.bool true) ∧ Below w.heap.size w w' := by
  have HT : Hid (Tab w) := hT
  clear hT
  have kc := fun (w : World) (C : Array Value) (n c : Nat) => Lib.run_convert_bytes_const (P := Tryd.prog) w 22 5 C n c Tryd.underlying22 Tryd.underlying5
  have x1 : bits .xor .i64 0 0 = 0 := i64_xor_nat 0 0 (by decide) (by decide)
  go_enter Tryd.func3, Tryd.ntmps3
  go_wp2_with fail
  clear kc
  refine (wireSums.sum_eq _ _ _ chk _ (chk_rd w) (by omega) (wireSums.tab_below HT.out ((Below.refl _ _).alloc (Nat.le_refl _) _)) 3421780262 chk_sum).mono ?_
  rintro e w' ⟨rfl, rfl⟩
  go_wp2_with fail
  clear hN
  have HB : Hid (Below w.heap.size w (w.alloc chkObj)) := (Below.refl _ _).alloc (Nat.le_refl _) _
  generalize w.alloc chkObj = w1 at *
  refine wp_loop_rounds 1 ?_
  rw [rounds_succ]
  go_wp2_with fail
  go_quiet ((go_at_call 6; exact Calls.quiet_of_same (sum_zero _ _ _ _)))
  go_wp2
  go_ret
  exact ⟨rfl, below_drewN HB.out _⟩

theorem core (aA : Option Addr) (cA : Nat) (A : List Int) (aB : Option Addr) (cB : Nat) (B : List Int) (aC : Option Addr) (cC : Nat) (C : List Int) (w : World)
    (hA : Rd w aA A.length cA A) (lA : A.length ≤ cA ∧ cA ≤ 140737488351232) (hB : Rd w aB B.length cB B) (lB : B.length ≤ cB ∧ cB ≤ 140737488351232) (hC : Rd w aC C.length cC C) (lC : C.length ≤ cC ∧ cC ≤ 140737488351232) (hT : Tab w) :
    Calls Tryd.prog 3 #[.slice aA A.length cA, .slice aB B.length cB, .slice aC C.length cC] w fun e w' => e = .returned (.bool true) ∧ Below w.heap.size w w' := by
  obtain ⟨N, hNA, hNB, hNC, hN⟩ := min_eq A.length B.length C.length
  by_cases h0 : N = 0
  · subst h0
    exact core_zero aA aB aC _ _ _ cA cB cC w lA.1 lB.1 lC.1 hT hN
  · rcases hA.2.2.1 with h | ⟨bA, oA, rfl, fA⟩
    · omega
    rcases hB.2.2.1 with h | ⟨bB, oB, rfl, fB⟩
    · omega
    rcases hC.2.2.1 with h | ⟨bC, oC, rfl, fC⟩
    · omega
    exact core_some bA oA bB oB bC oC _ _ _ cA cB cC A B C w hA hB hC (by omega) (by omega) (by omega) lA.1 lB.1 lC.1 hT N (by omega) hNA hNB hNC hN fA fB fC
end Go.Proofs.YtbjpbcanmpimnaaDoor.wireLinear
