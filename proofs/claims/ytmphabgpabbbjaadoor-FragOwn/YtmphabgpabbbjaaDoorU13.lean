import Derived.Test.YtmphabgpabbbjaaDoorU12
import Derived.Lib.SlBytesConst
namespace Go.Proofs.YtmphabgpabbbjaaDoor.Fg
open Go.RowKit Mb
set_option linter.unusedVariables false
set_option maxRecDepth 100000
set_option linter.unusedSimpArgs false
section
variable {w w' W : World} {B : Nat}
theorem own_empty (W : World) : Own (W.alloc (.cells #[] 5)) W.heap.size (.slice (some ⟨W.heap.size, 0, none⟩) 0 0) [] := World.ownsRow_made W #[] 0 (by omega) (Nat.zero_le _) (by simp)
theorem wl_copyB {ops : Array Oper} {rest : List Oper} {o : Oper} {a : Act} {Q : Exit → Act → World → Prop} (hgd : o.guard = none) (s x : Operand)
    (ho : o.op = .call { callee := .builtin .append, args := #[s, x], argTypes := #[28, 28] }) (hw : W = w.alloc (.cells #[] 5)) (hs : a.eval s = .slice (some ⟨w.heap.size, 0, none⟩) 0 0)
    (ao : Option Addr) (m c : Nat) (bs : List Int) (hx : a.eval x = .slice ao m c) (hr : Rd w ao m c bs) (hm : m ≤ 1000000)
    (h : ∀ v' w', Own w' w.heap.size v' bs → Below w.heap.size w w' → wpList Tryd.prog ops Q rest (a.put o.dst v') w') : wpList Tryd.prog ops Q (o :: rest) a W := by
  subst hw
  have hb : Below w.heap.size w (w.alloc (.cells #[] 5)) := balloc (Below.refl _ _)
  refine wpList_append_rd hgd s x ho w.heap.size _ [] bs hs (own_empty w) ao m c hx (hr.still hb) (by simp; omega) (by simp) fun v' w' h2 h3 => h v' w' h2 ?_
  exact hb.grown h3 (by simp) (fun k hk => by simp [Value.ownBlock] at hk; omega)
def lit7 : List Int := [98, 101, 116, 119, 101, 101, 110]
theorem lit7_by : By lit7 := By.of (by decide)
theorem mark_rd (w : World) : Rd (w.alloc (.cells #[.int .u8 98, .int .u8 101, .int .u8 116, .int .u8 119, .int .u8 101, .int .u8 101, .int .u8 110] 5 (7, 8))) (some ⟨w.heap.size, 0, none⟩) 7 7 lit7 := ⟨rfl, Nat.le_refl _, by simp, .inr ⟨w.heap.size, 0, rfl, fun i hi => by
    have h9 := World.cell?_alloc_mark w (byts lit7).toArray 5 (7, 8) i
    rw [List.getElem?_toArray, byts_at lit7 i hi] at h9
    rw [Nat.zero_add]
    exact h9⟩, lit7_by⟩
theorem RS.keep {P : Nat → Prop} {base : Nat} {v : Value} {cs : List (List Int)} (h : RS w base v cs) (k : Kept w w' P) (hp : ∀ q, base ≤ q → q < w.heap.size → ¬ P q) : RS w' base v cs := by
  obtain ⟨vals, h1, h2⟩ := h
  refine ⟨vals, Kept.owns k h1 (fun g hg => ?_), fun i hi => ?_⟩
  · have := World.ownsRow.lt h1 g hg
    exact hp g this.1 this.2
  · obtain ⟨a, m, c, h3, h4⟩ := h2 i hi
    exact ⟨a, m, c, h3, h4.keep k (fun g hg => by have := h4.lt g hg; exact hp g this.1 this.2)⟩
theorem RS.rq {base : Nat} {a : Option Addr} {n c : Nat} {cs : List (List Int)} (h : RS w base (.slice a n c) cs) (hn : 0 < n) (hb : ∀ i, By (cs.getD i [])) : RQ w a n (fun i => cs.getD i []) (fun q => base ≤ q ∧ q < w.heap.size) ∧ cs.length = n := by
  have hr := h.rr hb
  obtain ⟨vals, h1, h2⟩ := h
  refine ⟨?_, hr.2⟩
  rcases h1.2 with ⟨e, h3⟩ | ⟨g, cap, cur, hv, hg, hh, _⟩
  · have := hr.2
    omega
  · have hn2 := hr.2
    simp at hv
    obtain ⟨rfl, _⟩ := hv
    refine ⟨g, rfl, ⟨hg, lt_heap hh⟩, fun i hi => ?_⟩
    obtain ⟨ai, mi, ci, h4, h5⟩ := h2 i (by omega)
    rw [hn2] at h1
    refine ⟨ai, mi, ci, by rw [World.ownsRow.cellAt h1 i (by omega), h4], h5.rd (hb i), fun q off e => ?_⟩
    subst e
    exact h5.lt q rfl
theorem RQ.sub {F F' : Nat → Prop} {a : Option Addr} {N : Nat} {cs : Nat → List Int} (h : RQ w a N cs F) (hF : ∀ q, F q → F' q) : RQ w a N cs F' := by
  obtain ⟨g, h1, h2, h3⟩ := h.at_
  refine ⟨g, h1, hF _ h2, fun i hi => ?_⟩
  obtain ⟨ai, mi, ci, h4, h5, h6⟩ := h3 i hi
  exact ⟨ai, mi, ci, h4, h5, fun q off e => hF _ (h6 q off e)⟩
def gl (i L : Nat) : List Int := (List.range L).map (sg i)
theorem gl_len (i L : Nat) : (gl i L).length = L := by simp [gl]
theorem gl_succ (i L : Nat) : gl i (L + 1) = gl i L ++ [sg i L] := by simp [gl, List.range_succ]
theorem gl_at (i L j : Nat) (h : j < L) : (gl i L).getD j 0 = sg i j := by simp [gl, List.getD, h]
theorem wl_growB {ops : Array Oper} {rest : List Oper} {o : Oper} {a : Act} {Q : Exit → Act → World → Prop} (hgd : o.guard = none) (s x : Operand)
    (ho : o.op = .call { callee := .builtin .append, args := #[s, x], argTypes := #[28, 28] }) (w0 : World) (z : Int) (hw : w = w0.alloc (.cells #[.int .u8 z] 5)) (g off L : Nat) (bs : List Int) (hs : a.eval s = .slice (some ⟨g, off, none⟩) L L) (hl : bs.length = L) (hc : ∀ j, j < L → w0.cell? ⟨g, off + j, none⟩ = some (.int .u8 (bs.getD j 0)))
    (hx : a.eval x = .slice (some ⟨w0.heap.size, 0, none⟩) 1 1) (hL : L ≤ 1000000) (base : Nat) (hbase : base ≤ w0.heap.size)
    (h : ∀ v' w', Own w' base v' (bs ++ [z]) → Below base w0 w' → wpList Tryd.prog ops Q rest (a.put o.dst v') w') : wpList Tryd.prog ops Q (o :: rest) a w := by
  obtain ⟨si, shi, shz0, shz1, shz2⟩ := byte_info
  subst hw
  have hb : Below w0.heap.size w0 (w0.alloc (.cells #[.int .u8 z] 5)) := balloc (Below.refl _ _)
  refine wpList_append_arg _ hgd s x 28 ho 5 si (.int .u8 0) 1 1 Tryd.underlying28 shi shz0 shz1 shz2 rfl (by decide) g off L L (byts bs) hs (by rw [byts_len]; omega) (fun j u hu => ?_) ⟨w0.heap.size, 0, none⟩ 1 1 [.int .u8 z] hx rfl (cell_one_new _ _ _) (by intro u hu; simp at hu; subst hu; rfl) (fun hh => by omega) (by unfold maxLen; omega) (by omega) (fun hh => by omega) (fun _ v' w' h2 h3 => ?_)
  · by_cases e : j < L
    · rw [byts_at bs j (by omega)] at hu
      cases hu
      exact below_at hb (hc j e)
    · rw [List.getElem?_eq_none (by rw [byts_len]; omega)] at hu
      cases hu
  · refine h v' w' (own_lower' (own_push (by omega) h2) (by simp; omega)) ((hb.mono hbase).grown h3 (by simp; omega) (fun k hk => by cases hk))
theorem wl_pushB {ops : Array Oper} {rest : List Oper} {o : Oper} {a : Act} {Q : Exit → Act → World → Prop} (hgd : o.guard = none) (s x : Operand)
    (ho : o.op = .call { callee := .builtin .append, args := #[s, x], argTypes := #[28, 28] }) (w0 : World) (z : Int) (hw : w = w0.alloc (.cells #[.int .u8 z] 5)) (v : Value) (bs : List Int) (hs : a.eval s = v) (base : Nat) (hown : Own w0 base v bs)
    (hx : a.eval x = .slice (some ⟨w0.heap.size, 0, none⟩) 1 1) (hL : bs.length ≤ 1000000) (hbase : base ≤ w0.heap.size)
    (h : ∀ v' w', Own w' base v' (bs ++ [z]) → Below base w0 w' → wpList Tryd.prog ops Q rest (a.put o.dst v') w') : wpList Tryd.prog ops Q (o :: rest) a w := by
  obtain ⟨si, shi, shz0, shz1, shz2⟩ := byte_info
  subst hw
  have hb : Below w0.heap.size w0 (w0.alloc (.cells #[.int .u8 z] 5)) := balloc (Below.refl _ _)
  refine wpList_append_own _ hgd s x 28 ho base 5 si (.int .u8 0) 1 1 Tryd.underlying28 shi shz0 shz1 shz2 rfl (by decide) v bs.length (byts bs) hs (World.ownsRow.alloc hown _) ⟨w0.heap.size, 0, none⟩ 1 1 [.int .u8 z] hx rfl (cell_one_new _ _ _) (by intro u hu; simp at hu; subst hu; rfl) (by unfold maxLen; omega) (by omega) (by simp; omega) fun v' w' h2 h3 _ => h v' w' (own_push rfl h2) ?_
  exact below_push (Below.refl _ _) hbase hown h3
def xz (i : Nat) (c : Int) : Int := bits .xor .u8 c (1 + (i : Int) % 3)
def xr (k : Nat) (bs : List Int) : List Int := bs.mapIdx fun i c => if i < k then xz i c else c
theorem xr_len (k : Nat) (bs : List Int) : (xr k bs).length = bs.length := by simp [xr]
theorem xr_zero (bs : List Int) : xr 0 bs = bs := by
  apply List.ext_getElem
  · simp [xr]
  · intro i h1 h2; simp [xr]
theorem xr_get (k : Nat) (bs : List Int) (h : k < bs.length) : (xr k bs).getD k 0 = bs.getD k 0 := by
  simp [xr, List.getD, h]
theorem xr_set (k : Nat) (bs : List Int) (h : k < bs.length) : (xr k bs).set k (xz k (bs.getD k 0)) = xr (k + 1) bs := by
  apply List.ext_getElem
  · simp [xr]
  · intro i h1 h2
    simp only [xr, List.getElem_set, List.getElem_mapIdx]
    by_cases e : k = i
    · subst e; simp [List.getD, h]
    · rw [if_neg e]
      by_cases hi : i < k
      · rw [if_pos hi, if_pos (by omega)]
      · rw [if_neg hi, if_neg (by omega)]
theorem xz_range (i : Nat) (x : Int) : 0 ≤ xz i x ∧ xz i x ≤ 255 := by
  unfold xz bits
  simp only [IntKind.wrap, IntKind.bits, IntKind.signed]
  simp
  omega
theorem xr_by {k : Nat} {bs : List Int} (h : By bs) : By (xr k bs) := fun i => by
  by_cases hi : i < bs.length
  · have e : (xr k bs).getD i 0 = if i < k then xz i (bs.getD i 0) else bs.getD i 0 := by simp [xr, List.getD, hi]
    rw [e]
    by_cases hk : i < k
    · rw [if_pos hk]; have := xz_range i (bs.getD i 0); omega
    · rw [if_neg hk]; exact h i
  · have e : (xr k bs).getD i 0 = 0 := by simp [List.getD, List.getElem?_eq_none (show (xr k bs).length ≤ i by rw [xr_len]; omega)]
    rw [e]; omega
theorem own_xr {wr : World} {base g n cap k : Nat} {bs ms : List Int} (h : Own wr base (.slice (some ⟨g, 0, none⟩) n cap) (xr k bs ++ ms)) (hn : (bs ++ ms).length = n) (hk : k < bs.length) : Own (wr.setCell ⟨g, k, none⟩ (.int .u8 (xz k (bs.getD k 0)))) base (.slice (some ⟨g, 0, none⟩) n cap) (xr (k + 1) bs ++ ms) := by
  have hl : (xr k bs ++ ms).length = n := by rw [List.length_append, xr_len, ← List.length_append, hn]
  have hl2 : (xr (k + 1) bs ++ ms).length = n := by rw [List.length_append, xr_len, ← List.length_append, hn]
  unfold Own at h ⊢
  rw [hl] at h
  rw [hl2]
  have hs := (World.ownsRow.stored h k (.int .u8 (xz k (bs.getD k 0)))).1
  have e : (byts (xr k bs ++ ms)).set k (.int .u8 (xz k (bs.getD k 0))) = byts (xr (k + 1) bs ++ ms) := by
    unfold byts
    rw [← List.map_set, List.set_append_left k _ (by rw [xr_len]; exact hk), xr_set k bs hk]
  rw [e] at hs
  exact hs
theorem own_fz {wr : World} {base g n cap k : Nat} {bs : List Int} (h : Own wr base (.slice (some ⟨g, 0, none⟩) n cap) bs) : wr.frozen? ⟨g, k, none⟩ = false := by
  obtain ⟨C, hC⟩ := own_ty h rfl
  exact frozen_of_row _ _ _ _ _ hC
theorem cats7 : ((cats lit7 1).drop 8).take 7 = lit7 := by
  have e : cats lit7 1 = hdB lit7.length (0 * 248) (crc lit7) ++ (lit7.drop (0 * 248)).take 248 := by
    rw [← chunk_hd]
    simp [cats]
  rw [e, List.drop_left' (hdB_len _ _ _)]
  rfl
theorem cats7_len : (cats lit7 1).length = 15 := by
  have := cats_all (b := lit7) (by decide)
  exact this
theorem fb_rq {w : World} {gc gr n N : Nat} {b : List Int} (hF : Fb w gc 28 N (rowF gr n N)) (hB : Bk w gr (cats b N)) (hn : n ≤ 4000) (hl : b.length = n) (hN : cnt n = N) (hby : By b) : RQ w (some ⟨gc, 0, none⟩) N (chunk b) (fun q => q = gc ∨ q = gr) := by
  subst hl hN
  exact ⟨gc, rfl, .inl rfl, fun i hi => ⟨_, _, _, row_cell hF hi, piece_rd hn hby hB hi, fun q off e => by simp at e; exact .inr e.1.symm⟩⟩
def GrY (w11 wr : World) (i g o L k : Nat) (y : Value) : Prop := (k = 0 ∧ y = .slice (some ⟨g, o, none⟩) L L) ∨ (0 < k ∧ Own wr w11.heap.size y (gl i (L + k)))
set_option maxHeartbeats 16000000 in
theorem own_any {ao : Option Addr} {n0 c : Nat} {b0 : List Int} (hr : Rd w ao n0 c b0) (hn0 : n0 ≤ 140737488351232) (hT : Tab w) : Calls Tryd.prog 7 #[.slice ao n0 c] w fun e w' => e = .returned (.bool true) ∧ Below w.heap.size w w' := by
  have Hr0 : Hid (Rd w ao n0 c b0) := hr
  obtain ⟨b, hb⟩ : ∃ b, b0.take 4000 = b := ⟨_, rfl⟩
  obtain ⟨n, hn⟩ : ∃ n, min n0 4000 = n := ⟨_, rfl⟩
  have hr1 := hr.short
  rw [hb, hn] at hr1
  have hn4 : n ≤ 4000 := by omega
  have hl := hr1.len
  have hby := hr1.by_
  have Hr : Hid (Rd w ao n c b) := hr1
  have HT : Hid (Tab w) := hT
  have h0B : 0 < w.heap.size := World.block_lt_of_cell? w _ (hT 0 (by omega))
  clear hr hr1 hT hb
  go_enter Tryd.func7, Tryd.ntmps7
  go_wp2_with fail
  refine (short_any Hr0.out (by omega)).mono ?_
  rw [hn]
  rintro e w' ⟨rfl, rfl⟩
  clear Hr0 hn
  go_wp2_with fail
  refine (spare_any Hr.out (by omega)).mono ?_
  rintro e w1 ⟨gk, ck, rfl, hck, hgk, hok, hb1⟩
  have hgk1 := (own_block_lt hok).2
  have HO1 : Hid (Own w1 w.heap.size (.slice (some ⟨gk, 0, none⟩) (n + 64) ck) (b ++ marks 64)) := hok
  go_wp2_with fail
  refine (split_ok (hok.rdPre hby hl (by omega)) hn4 (HT.out.still hb1)).mono ?_
  rintro e w2 ⟨gc1, gr1, rfl, hgc1, hgr1, hF1, hB1, hb2⟩
  have hN1 := cnt_pos hn4
  have hN17 := cnt_le n
  generalize hN : cnt n = N at *
  have hgc1' := hF1.lt
  have hgr1' := hB1.lt
  have HF1 : Hid (Fb w2 gc1 28 N (rowF gr1 n N)) := hF1
  have HB1 : Hid (Bk w2 gr1 (cats b N)) := hB1
  have HW2 : Hid (Below w.heap.size w w2) := bstep hb1 hb2
  have HO2 : Hid (Own w2 w.heap.size (.slice (some ⟨gk, 0, none⟩) (n + 64) ck) (b ++ marks 64)) := HO1.out.still hb2
  have hs12 := hb2.size
  clear hF1 hB1 hok HO1 hb1 hb2
  have hcv := Lib.run_convert_bytes_const (P := Tryd.prog) w2 28 5 #[.int .u8 98, .int .u8 101, .int .u8 116, .int .u8 119, .int .u8 101, .int .u8 101, .int .u8 110] 7 7 Tryd.underlying28 Tryd.underlying5
  go_wp2_with fail
  generalize hV : w2.alloc (.cells #[.int .u8 98, .int .u8 101, .int .u8 116, .int .u8 119, .int .u8 101, .int .u8 101, .int .u8 110] 5 (7, 8)) = V
  have hbV : Below w2.heap.size w2 V := by rw [← hV]; exact balloc (Below.refl _ _)
  have hL7 : Rd V (some ⟨w2.heap.size, 0, none⟩) 7 7 lit7 := by rw [← hV]; exact mark_rd w2
  clear hV hcv
  refine (split_ok hL7 (by omega) (HT.out.still (bstep HW2.out hbV))).mono ?_
  rw [show cnt 7 = 1 from rfl]
  rintro e w3 ⟨gcx, grx, rfl, hgcx, hgrx, hFx, hBx, hb3⟩
  have hs23 := hbV.size
  have hs3 := hb3.size
  have hgcx' := hFx.lt
  have hgrx' := hBx.lt
  have hb23 : Below w2.heap.size w2 w3 := bstep hbV hb3
  have HFx : Hid (Fb w3 gcx 28 1 (rowF grx 7 1)) := hFx
  have HBx : Hid (Bk w3 grx (cats lit7 1)) := hBx
  have HO3 : Hid (Own w3 w.heap.size (.slice (some ⟨gk, 0, none⟩) (n + 64) ck) (b ++ marks 64)) := HO2.out.still hb23
  have HW3 : Hid (Below w.heap.size w w3) := bstep HW2.out hb23
  have HF13 : Hid (Fb w3 gc1 28 N (rowF gr1 n N)) := HF1.out.keep (Kept.ofBelow hb23 (fun _ => False)) id
  have HB13 : Hid (Bk w3 gr1 (cats b N)) := HB1.out.still hb23
  clear hL7 hbV hb3 hb23 hFx hBx HO2 HW2 HF1 HB1
  go_wp2_with fail
  refine (split_ok (HO3.out.rdPre hby hl (by omega)) hn4 (HT.out.still HW3.out)).mono ?_
  rw [hN]
  rintro e w4 ⟨gc2, gr2, rfl, hgc2, hgr2, hF2, hB2, hb4⟩
  have hs34 := hb4.size
  have hgc2' := hF2.lt
  have hgr2' := hB2.lt
  have HK4 : Hid (Kept w3 w4 (fun _ => False)) := Kept.ofBelow hb4 _
  have HF2 : Hid (Fb w4 gc2 28 N (rowF gr2 n N)) := hF2
  have HB2 : Hid (Bk w4 gr2 (cats b N)) := hB2
  have HW4 : Hid (Below w.heap.size w w4) := bstep HW3.out hb4
  clear hF2 hB2 hb4
  have hNz : ((N : Int) == 0) = false := by rw [beq_eq_false_iff_ne]; omega
  go_wp2_with fail
  refine (new_ok (n := 2) (by omega) (by omega)).mono ?_
  rintro e w5 ⟨jb, bp, rfl, hj5, hb5⟩
  have hs45 := hb5.size
  have HJ5 : Hid ((jnew jb bp 2).Ok w5 w4.heap.size) := hj5
  have hjb : w4.heap.size ≤ jb ∧ jb < w5.heap.size := ⟨hj5.lb, lt_heap hj5.jb⟩
  have hbp : w4.heap.size ≤ bp ∧ bp < w5.heap.size := ⟨hj5.lp, hj5.row.lt⟩
  have HK5 : Hid (Kept w3 w5 (fun _ => False)) := HK4.out.step (Kept.ofBelow hb5 (fun _ => False)) (fun _ h => h.elim)
  have HO5 : Hid (Own w5 w.heap.size (.slice (some ⟨gk, 0, none⟩) (n + 64) ck) (b ++ marks 64)) := HO3.out.keep HK5.out (fun _ _ => id)
  have HFx5 : Hid (Fb w5 gcx 28 1 (rowF grx 7 1)) := HFx.out.keep HK5.out id
  have HBx5 : Hid (Bk w5 grx (cats lit7 1)) := HBx.out.keep HK5.out id
  have HF15 : Hid (Fb w5 gc1 28 N (rowF gr1 n N)) := HF13.out.keep HK5.out id
  have HB15 : Hid (Bk w5 gr1 (cats b N)) := HB13.out.keep HK5.out id
  have HF25 : Hid (Fb w5 gc2 28 N (rowF gr2 n N)) := HF2.out.keep (Kept.ofBelow hb5 (fun _ => False)) id
  have HB25 : Hid (Bk w5 gr2 (cats b N)) := HB2.out.still hb5
  have HW5 : Hid (Below w.heap.size w w5) := bstep HW4.out hb5
  have hB4 : 0 < w4.heap.size := by omega
  have hsw := HW4.out.size
  obtain ⟨B4, hB4e⟩ : ∃ B4, w4.heap.size = B4 := ⟨_, rfl⟩
  rw [hB4e] at hjb hbp hs45 HJ5 hB4 hsw hgc2' hgr2' hs34
  clear hj5 hb5 HK4 HK5 HO3 HFx HBx HF13 HB13 HF2 HB2 HW3 HW4
  go_wp2_with fail
  have HP1 : Hid (∀ W', Kept w5 W' (fun _ => False) → ∀ i, i < N → Rd W' (some ⟨gr1, i * 256, none⟩) (ln n i) (ln n i) (chunk b i)) := fun W' hk i hi => by
    have := piece_rd (w := W') (gr := gr1) (b := b) (i := i) (by omega) hby (by rw [hl, hN]; exact HB15.out.keep hk id) (by rw [hl, hN]; exact hi)
    rw [hl] at this
    exact this
  have HP2 : Hid (∀ W', Kept w5 W' (fun _ => False) → ∀ i, i < N → Rd W' (some ⟨gr2, i * 256, none⟩) (ln n i) (ln n i) (chunk b i)) := fun W' hk i hi => by
    have := piece_rd (w := W') (gr := gr2) (b := b) (i := i) (by omega) hby (by rw [hl, hN]; exact HB25.out.keep hk id) (by rw [hl, hN]; exact hi)
    rw [hl] at this
    exact this
  go_loopw [13, 14] (fun v q wr => ∃ k : Nat, k ≤ N ∧ q = .int .i64 (k : Int) ∧ Hid (RS wr w5.heap.size v ((List.range k).map (chunk b))) ∧ Hid (Below w5.heap.size w5 wr)) (fun _ q _ => N - (intOf q).toNat)
  case atStart => exact ⟨0, Nat.zero_le _, rfl, rs_nil _ _, Below.refl _ _⟩
  case round =>
    obtain ⟨k, hk, rfl, hrs, hbel⟩ := hrel
    by_cases hlt : k < N
    · have x0 : wr.cell? ⟨gc1, k, none⟩ = some (.slice (some ⟨gr1, k * 256, none⟩) (ln n k) (ln n k)) := below_at hbel.out (row_cell HF15.out hlt)
      have y0 : wr.cell? ⟨gc2, k, none⟩ = some (.slice (some ⟨gr2, k * 256, none⟩) (ln n k) (ln n k)) := below_at hbel.out (row_cell HF25.out hlt)
      have HS : Hid (∀ W', Below wr.heap.size wr W' → Calls Tryd.prog 11 #[.slice (some ⟨gr1, k * 256, none⟩) (ln n k) (ln n k), .slice (some ⟨gr2, k * 256, none⟩) (ln n k) (ln n k)] W' fun e w' => e = .returned (.bool true) ∧ w' = W') := fun W' hb' => (same_any (HP1.out W' (Kept.ofBelow (bstep hbel.out hb') _) k hlt) (HP2.out W' (Kept.ofBelow (bstep hbel.out hb') _) k hlt)).mono fun e w' hh => ⟨hh.1, hh.2.symm⟩
      have hmm := ln_le n k
      have HRk : Hid (∀ W', Below wr.heap.size wr W' → Rd W' (some ⟨gr1, k * 256, none⟩) (ln n k) (ln n k) (chunk b k)) := fun W' hb' => HP1.out W' (Kept.ofBelow (bstep hbel.out hb') _) k hlt
      have hws := hbel.out.size
      generalize ln n k = mm at *
      have i1 : (0 : Int) ≤ (k : Int) := Int.natCast_nonneg _
      have i2 : (k : Int) < (N : Int) := by omega
      go_wp2_with fail
      go_quiet ((go_at_call 11; exact Calls.quiet_of_same (HS.out _ (by repeat (first | exact Below.refl _ _ | apply below_drewN | apply Below.drew)))))
      have HbD : Hid (Below wr.heap.size wr (wr.drewN nq)) := below_drewN (Below.refl _ _) _
      have x1 := below_at HbD.out x0
      generalize wr.drewN nq = wd at *
      have x2 : (wd.alloc (.cells #[] 5)).cell? ⟨gc1, k, none⟩ = some (.slice (some ⟨gr1, k * 256, none⟩) mm mm) := below_at (balloc (Below.refl _ _)) x1
      have hwd := HbD.out.size
      clear x0 y0 HS
      go_wp2_with (first | (at_builtin; refine wl_copyB (w := wd) rfl _ _ rfl rfl rfl _ _ _ (chunk b k) rfl (HRk.out wd HbD.out) (by omega) ?_; intro v3 w3' ho3 hb3; obtain ⟨a3, c3, rfl, _⟩ := ho3.shape) | (at_builtin; refine wl_pushR rfl _ _ rfl w3' w5 w5.heap.size _ ((List.range k).map (chunk b)) (.slice a3 (chunk b k).length c3) (chunk b k) rfl (hrs.out.below (bstep HbD.out hb3)) (own_lower' ho3 (by omega)) rfl rfl (by rw [List.length_map, List.length_range]; omega) (by have := hb3.size; omega) (bstep hbel.out (bstep HbD.out hb3)) ?_) | fail)
      intro v4 w4' h4 hb4'
      have HR : Hid (RS w4' w5.heap.size v4 ((List.range (k + 1)).map (chunk b))) := (show RS w4' w5.heap.size v4 ((List.range (k + 1)).map (chunk b)) from by rw [List.range_succ, List.map_append]; exact h4)
      have HB : Hid (Below w5.heap.size w5 w4') := hb4'
      clear h4 hb4' ho3 hb3 hrs hbel HRk x1 x2 HbD
      go_wp2
      go_roundw
      case rel => exact ⟨k + 1, by omega, by go_num, HR, HB⟩
      case measure => simp [intOf]; omega
    · obtain rfl : N = k := by omega
      rename World => w7
      clear hlt hk
      obtain ⟨a7, c7, hv7⟩ := hrs.out.shape
      rw [List.length_map, List.length_range] at hv7
      subst hv7
      have hHi : w5.heap.size ≤ w7.heap.size := hbel.out.size
      have HR7 : Hid (RS w7 w5.heap.size (.slice a7 N c7) ((List.range N).map (chunk b))) := hrs
      have HK7 : Hid (Kept w5 w7 (fun _ => False)) := Kept.ofBelow hbel.out _
      have HW7 : Hid (Below w.heap.size w w7) := bstep HW5.out hbel.out
      have HO7 : Hid (Own w7 w.heap.size (.slice (some ⟨gk, 0, none⟩) (n + 64) ck) (b ++ marks 64)) := HO5.out.keep HK7.out (fun _ _ => id)
      have HFx7 : Hid (Fb w7 gcx 28 1 (rowF grx 7 1)) := HFx5.out.keep HK7.out id
      have HBx7 : Hid (Bk w7 grx (cats lit7 1)) := HBx5.out.keep HK7.out id
      have HF17 : Hid (Fb w7 gc1 28 N (rowF gr1 n N)) := HF15.out.keep HK7.out id
      have HB17 : Hid (Bk w7 gr1 (cats b N)) := HB15.out.keep HK7.out id
      have HF27 : Hid (Fb w7 gc2 28 N (rowF gr2 n N)) := HF25.out.keep HK7.out id
      have HB27 : Hid (Bk w7 gr2 (cats b N)) := HB25.out.keep HK7.out id
      have HJ7 : Hid ((jnew jb bp 2).Ok w7 B4) := HJ5.out.keep HK7.out (fun _ _ => id)
      have HQ7 : Hid (RQ w7 a7 N (fun i => ((List.range N).map (chunk b)).getD i []) (fun q => w5.heap.size ≤ q ∧ q < w7.heap.size)) := (HR7.out.rq (by omega) (fun i => by
        by_cases e : i < N
        · rw [show ((List.range N).map (chunk b)).getD i [] = chunk b i by simp [List.getD, e]]; exact chunk_by hby i
        · rw [show ((List.range N).map (chunk b)).getD i [] = [] by simp [List.getD, show N ≤ i by omega]]; exact By.nil)).1
      have HCs : Hid (∀ i, i < N → ((List.range N).map (chunk b)).getD i [] = chunk b i) := fun i hi => by simp [List.getD, hi]
      generalize hcs : (fun i => ((List.range N).map (chunk b)).getD i []) = cs at *
      have HCS : Hid (∀ i, i < N → cs i = chunk b i) := fun i hi => by rw [← hcs]; exact HCs.out i hi
      generalize hlo : w5.heap.size = lo at *
      clear hcs HCs HP1 HP2 HO5 HFx5 HBx5 HF15 HB15 HF25 HB25 HW5 HJ5 HK7 HR7 hrs hbel hlo
      have z1 : (w7.ownsRow w7.heap.size 28 1 (.slice none 0 0) 0 []) := ⟨rfl, .inl ⟨rfl, rfl⟩⟩
      go_wp2_with (first | (at_builtin; refine wl_rows rfl _ _ rfl w7.heap.size (.slice none 0 0) 0 [] rfl z1 gc1 N N rfl (rowF gr1 n N) (fun i hi => HF17.out.cell i hi) (fun i hi => by unfold rowF; rw [if_pos hi]; rfl) (by omega) (Nat.le_refl _) ?_) | fail)
      intro v1 w8 ho8 hk8
      have HK8 : Hid (Kept w7 w8 (fun _ => False)) := hk8.mono (fun q _ e => by simp [Value.ownBlock] at e)
      have HO8 : Hid (w8.ownsRow w7.heap.size 28 1 v1 N ((List.range N).map (rowF gr1 n N))) := ho8
      have hs8 := hk8.size
      clear ho8 hk8 z1
      go_wp2_with (first | (at_builtin; refine wl_rows rfl _ _ rfl w7.heap.size v1 N _ rfl HO8.out gc2 N N rfl (rowF gr2 n N) (fun i hi => (HF27.out.keep HK8.out id).cell i hi) (fun i hi => by unfold rowF; rw [if_pos hi]; rfl) (by omega) (by omega) ?_) | fail)
      intro v2 w9 ho9 hk9
      have HK9 : Hid (Kept w7 w9 (fun _ => False)) := HK8.out.step hk9 (fun q e => .inr (World.ownsRow.lt HO8.out q e.symm).1)
      have hrow9 : w9.ownsRow w7.heap.size 28 1 v2 (2 * N + 0) ((List.range (2 * N + 0)).map (eV N n gr1 gr2 (fun _ => 0))) := by
        rw [rows1 (g2 := gr2) (ys := fun _ => 0), rows2, show N + N = 2 * N + 0 by omega] at ho9
        exact ho9
      have hown0 : ∀ j, (jnew jb bp 2).own j → j = jb ∨ j = bp ∨ w7.heap.size ≤ j := fun j hj => by
        rcases hj with e | e | ⟨s, e⟩
        · exact .inl e
        · exact .inr (.inl e)
        · cases e
      have HL0 : Hid (L2 w7 w9 B4 jb bp N n gr1 gr2 b (jnew jb bp 2) (fun _ => 0) 0 v2) := ⟨hrow9, HJ7.out.keep HK9.out (fun _ _ => id), rfl, rfl, rfl, hown0, HK9.out.mono (fun _ _ h => h.elim), fun s hs => absurd hs (Nat.not_lt_zero _), fun s u hs => absurd hs (Nat.not_lt_zero _)⟩
      clear hrow9 hown0
      clear ho9 hk9 HK8 HO8 HK9 hs8
      generalize jnew jb bp 2 = J0 at *
      clear HJ7
      go_wp2_with fail
      go_loopw [15, 16] (fun v q wr => ∃ (t : Nat) (J : Jn) (ys : Nat → Nat), t ≤ 3 ∧ q = .int .i64 (t : Int) ∧ Hid (L2 w7 wr B4 jb bp N n gr1 gr2 b J ys t v)) (fun _ q _ => 3 - (intOf q).toNat)
      case atStart => exact ⟨0, J0, _, by omega, rfl, HL0⟩
      case round =>
        clear HL0
        obtain ⟨t, J, ys, ht, rfl, HL⟩ := hrel
        by_cases ht3 : t < 3
        · have i1 : (0 : Int) ≤ (t : Int) := Int.natCast_nonneg _
          have i2 : (t : Int) < 3 := by omega
          have hsr := HL.out.kp.size
          have HGv : Hid (Calls Tryd.prog 23 #[.pointer (some ⟨jb, 0, none⟩), .int .i64 ((t : Int) % 2), .slice a7 N c7] wr fun e w' => ∃ g' J', e = .returned (.tuple #[.slice (some ⟨g', 0, none⟩) n n, .bool true]) ∧ Bk w' g' b ∧ ¬ J'.own g' ∧ (J.own g' ∨ wr.heap.size ≤ g') ∧ Gv wr w' B4 J J' (t % 2)) := (show Calls _ _ _ _ _ from by
            have h1 := gives_any HL.out.ok (k := t % 2) (by rw [HL.out.jn]; omega) (c := c7) (HQ7.out.keep HL.out.kp (fun q hq e => by omega)) (fun q hq => ⟨by omega, fun hh => by
              rcases HL.out.own q hh with e | e | e <;> omega⟩) HCS.out hn4 hl hN hby ((HT.out.still HW7.out).keep HL.out.kp (by omega)) hB4 (by omega)
            rw [HL.out.ejb, show (((t % 2 : Nat) : Int)) = (t : Int) % 2 by omega] at h1
            exact h1)
          go_wp2_with fail
          refine HGv.out.mono ?_
          rintro e w10 ⟨g', J', rfl, hbk, hno, hown, hgv⟩
          have HSm : Hid (Calls Tryd.prog 11 #[.slice (some ⟨g', 0, none⟩) n n, .slice ao n c] w10 fun e w' => e = .returned (.bool true) ∧ w10 = w') := (show Calls _ _ _ _ _ from by
            have h1 := hbk.all n (by omega) hby
            rw [hl] at h1
            exact same_any h1 (Hr.out.still (HW7.out.trans ((HL.out.kp.below (B := w.heap.size) (by omega) (fun q hq => by omega)).trans (hgv.kp.below (by omega) (fun q hq hh => by have := HL.out.ok.own_lo q hh; omega))))))
          have HX : Hid (Bk w10 g' b ∧ ¬ J'.own g' ∧ (J.own g' ∨ wr.heap.size ≤ g') ∧ Gv wr w10 B4 J J' (t % 2)) := ⟨hbk, hno, hown, hgv⟩
          have hs10 := hgv.kp.size
          clear hbk hno hown hgv HGv
          go_wp2_with (first | (go_at_call 11; refine HSm.out.mono ?_; rintro e w' ⟨rfl, rfl⟩) | (at_builtin; refine wl_push1 rfl _ _ rfl w10 w7.heap.size _ (2 * N + t) _ (.slice (some ⟨g', 0, none⟩) n n) rfl (HL.out.rowAt HX.out.2.2.2) rfl rfl rfl (by omega) (by omega) ?_) | fail)
          intro v3 w11 ho11 hk11
          have HL' : Hid (L2 w7 w11 B4 jb bp N n gr1 gr2 b J' (upd ys t g') (t + 1) v3) := HL.out.next HX.out.2.2.2 HX.out.1 HX.out.2.1 HX.out.2.2.1 ho11 hk11
          clear ho11 hk11 HX HL HSm
          go_wp2
          go_roundw
          case rel => exact ⟨t + 1, J', _, by omega, by go_num, HL'⟩
          case measure => simp [intOf]; omega
        · have i3 : ¬ (t : Int) < 3 := by omega
          have ht9 : t = 3 := by omega
          rw [ht9] at HL
          clear ht9
          rename World => w9
          clear ht3 ht
          have hs9 := HL.out.kp.size
          have hb1 : Bk w9 gr1 (cats b N) := HB17.out.keep HL.out.kp (by omega)
          have hb2 : Bk w9 gr2 (cats b N) := HB27.out.keep HL.out.kp (by omega)
          have HW0 : Hid (Wr w9 w9 (2 * N + 3) (eB N gr1 gr2 ys) (eO N) (eL N n) 0 0) := HL.out.wr hn4 hl hN hby hb1 hb2 (by omega) (by omega) (by omega)
          have hro := HL.out.row
          rcases hro.2 with ⟨_, h0⟩ | ⟨gB, cB, cur, hvB, hgB, hhB, hcB, _⟩
          · omega
          subst hvB
          have HBrow : Hid (∀ a, a < 2 * N + 3 → w9.cell? ⟨gB, a, none⟩ = some (.slice (some ⟨eB N gr1 gr2 ys a, eO N a, none⟩) (eL N n a) (eL N n a))) := fun a ha => by
            rw [World.ownsRow.cellAt hro a (by omega)]
            simp [ha]
            rfl
          have HEb : Hid (∀ a, a < 2 * N + 3 → ¬ J.own (eB N gr1 gr2 ys a) ∧ (eB N gr1 gr2 ys a = gr1 ∨ eB N gr1 gr2 ys a = gr2 ∨ w7.heap.size ≤ eB N gr1 gr2 ys a) ∧ eB N gr1 gr2 ys a ≠ gB ∧ eL N n a ≤ 4000) := fun a ha => ⟨(HL.out.ebown (by omega) (by omega) ha).1, (HL.out.ebown (by omega) (by omega) ha).2, fun e => by
            obtain ⟨bs, h3⟩ := HL.out.ebty hb1 hb2 ha
            rw [e] at h3
            unfold Bk at h3
            rw [hhB] at h3
            simp at h3, eL_le hn4⟩
          have HJ9 : Hid (J.Ok w9 B4 ∧ J.b = jb ∧ J.n = 2 ∧ ∀ j, J.own j → j = jb ∨ j = bp ∨ w7.heap.size ≤ j) := ⟨HL.out.ok, HL.out.ejb, HL.out.jn, HL.out.own⟩
          have HK9 : Hid (Kept w7 w9 (fun q => q = jb ∨ q = bp)) := HL.out.kp
          have hM : 2 * N + 3 ≤ 37 := by omega
          have hM0 : 0 < 2 * N + 3 := by omega
          have hgB9 := lt_heap hhB
          clear hb1 hb2 hro hhB HL hcB
          generalize eB N gr1 gr2 ys = eb at *
          generalize eO N = eo at *
          generalize eL N n = el at *
          generalize 2 * N + 3 = M at *
          go_wp2_with fail
          go_loopw [19] (fun q wr => ∃ i : Nat, i ≤ M ∧ q = .int .i64 (i : Int) ∧ Hid (Wr w9 wr M eb eo el i 0)) (fun q _ => M - (intOf q).toNat)
          case atStart => exact ⟨0, Nat.zero_le _, rfl, HW0⟩
          case round =>
            clear HW0
            obtain ⟨i, hi, rfl, HWi⟩ := hrel
            by_cases hiM : i < M
            · have i1 : (0 : Int) ≤ (i : Int) := Int.natCast_nonneg _
              have i2 : (i : Int) < (M : Int) := by omega
              have hL4 := (HEb.out i hiM).2.2.2
              go_wp2_with fail
              go_loopw [20] (fun q wr => ∃ k : Nat, k ≤ el i ∧ q = .int .i64 (k : Int) ∧ Hid (Wr w9 wr M eb eo el i k)) (fun q _ => el i - (intOf q).toNat)
              case atStart => exact ⟨0, Nat.zero_le _, rfl, HWi⟩
              case round =>
                clear HWi
                obtain ⟨k, hk, rfl, HWk⟩ := hrel
                have x0 : wr.cell? ⟨gB, i, none⟩ = some (.slice (some ⟨eb i, eo i, none⟩) (el i) (el i)) := kept_cell HWk.out.kp (fun ⟨a, ha, e⟩ => (HEb.out a ha).2.2.1 e.symm) (HBrow.out i hiM)
                have k1 : (0 : Int) ≤ (k : Int) := Int.natCast_nonneg _
                by_cases hlt : k < el i
                · obtain ⟨f, hq, _⟩ := HWk.out.ex
                  have c0 := hq.drew.cell i k hiM hlt
                  have f0 := hq.drew.fz i k hiM hlt
                  have hgne := (HEb.out i hiM).2.2.1
                  have HPut : Hid (Wr w9 (wr.setCell ⟨eb i, eo i + k, none⟩ (.int .u8 (sg i k))).drew M eb eo el i (k + 1)) := HWk.out.put hiM hlt
                  have HSg : Hid (∀ W', Calls Tryd.prog 24 #[.int .i64 (i : Int), .int .i64 (k : Int)] W' fun e w' => e = .returned (.int .u8 (sg i k)) ∧ W' = w') := fun W' => sign_any i k (by omega) (by omega)
                  have k2 : (k : Int) < (el i : Int) := by omega
                  clear hq HWk
                  generalize f i k = fx at *
                  generalize sg i k = sx at *
                  generalize eb i = g at *
                  generalize eo i = o at *
                  generalize el i = L at *
                  go_wp2_with fail
                  refine wp_region_held_drew (S := (fun w' => w'.cell? ⟨gB, i, none⟩ = some (.slice (some ⟨g, o, none⟩) L L))) (by kernel_rfl) (below_at (Below.refl _ _).drew x0) (fun hHeld => ?_)
                  simp only [Act.put, List.size_toArray, List.length_cons, List.length_nil, Nat.zero_add]
                  refine wpAnyH_take (i := 0) (v := .slice (some ⟨gB, 0, none⟩) M cB) rfl (by kernel_rfl) (by kernel_rfl) (by kernel_rfl) (fun _ _ _ h => h) (Or.inl ⟨by rfl, fun w' hS => by go_simp⟩) hHeld ?_
                  simp only [Act.put, List.getElem_toArray, List.getElem_cons_zero, List.getElem_cons_succ, List.setIfInBounds_toArray, List.set_cons_zero, List.set_cons_succ]
                  refine wpAnyH_take (i := 1) (v := .int .i64 (i : Int)) rfl (by kernel_rfl) (by kernel_rfl) (by kernel_rfl) (fun _ _ _ h => h) (Or.inl ⟨by rfl, fun w' hS => by go_simp⟩) hHeld ?_
                  simp only [Act.put, List.getElem_toArray, List.getElem_cons_zero, List.getElem_cons_succ, List.setIfInBounds_toArray, List.set_cons_zero, List.set_cons_succ]
                  refine wpAnyH_take (i := 2) (v := .pointer (some ⟨gB, i, none⟩)) rfl (by kernel_rfl) (by kernel_rfl) (by kernel_rfl) (fun _ _ _ h => h) (Or.inl ⟨by rfl, fun w' hS => by go_simp⟩) hHeld ?_
                  simp only [Act.put, List.getElem_toArray, List.getElem_cons_zero, List.getElem_cons_succ, List.setIfInBounds_toArray, List.set_cons_zero, List.set_cons_succ]
                  refine wpAnyH_take (i := 3) (v := .slice (some ⟨g, o, none⟩) L L) rfl (by kernel_rfl) (by kernel_rfl) (by kernel_rfl) (fun _ _ _ h => h) (Or.inl ⟨by rfl, fun w' hS => by go_simp⟩) hHeld ?_
                  simp only [Act.put, List.getElem_toArray, List.getElem_cons_zero, List.getElem_cons_succ, List.setIfInBounds_toArray, List.set_cons_zero, List.set_cons_succ]
                  refine wpAnyH_take (i := 4) (v := .int .i64 (k : Int)) rfl (by kernel_rfl) (by kernel_rfl) (by kernel_rfl) (fun _ _ _ h => h) (Or.inl ⟨by rfl, fun w' hS => by go_simp⟩) hHeld ?_
                  simp only [Act.put, List.getElem_toArray, List.getElem_cons_zero, List.getElem_cons_succ, List.setIfInBounds_toArray, List.set_cons_zero, List.set_cons_succ]
                  refine wpAnyH_take (i := 5) (v := .int .i64 (i : Int)) rfl (by kernel_rfl) (by kernel_rfl) (by kernel_rfl) (fun _ _ _ h => h) (Or.inl ⟨by rfl, fun w' hS => by go_simp⟩) hHeld ?_
                  simp only [Act.put, List.getElem_toArray, List.getElem_cons_zero, List.getElem_cons_succ, List.setIfInBounds_toArray, List.set_cons_zero, List.set_cons_succ]
                  refine wpAnyH_take (i := 6) (v := .int .i64 (k : Int)) rfl (by kernel_rfl) (by kernel_rfl) (by kernel_rfl) (fun _ _ _ h => h) (Or.inl ⟨by rfl, fun w' hS => by go_simp⟩) hHeld ?_
                  simp only [Act.put, List.getElem_toArray, List.getElem_cons_zero, List.getElem_cons_succ, List.setIfInBounds_toArray, List.set_cons_zero, List.set_cons_succ]
                  refine wpAnyH_ready (rs := [7]) (by kernel_rfl) (by simp) ?_
                  refine AllReadyH.cons rfl (fun K hK => ?_) AllReadyH.nil
                  go_simp
                  refine (HSg.out _).mono ?_
                  rintro e w2' ⟨rfl, rfl⟩
                  refine hK.out _ _ (below_at (Below.refl _ _).drew x0) (fun hHeld => ?_)
                  clear hK K
                  refine wpAnyH_take (i := 8) (v := .pointer (some ⟨g, o + k, none⟩)) rfl (by kernel_rfl) (by kernel_rfl) (by kernel_rfl) (fun _ _ _ h => h) (Or.inl ⟨by rfl, fun w' hS => by go_simp⟩) hHeld ?_
                  simp only [Act.put, List.getElem_toArray, List.getElem_cons_zero, List.getElem_cons_succ, List.setIfInBounds_toArray, List.set_cons_zero, List.set_cons_succ]
                  refine wpAnyH_ready (rs := [9]) (by kernel_rfl) (by simp) ?_
                  refine AllReadyH.cons rfl (fun K hK => ?_) AllReadyH.nil
                  go_simp
                  refine hK.out _ _ (kept_cell (kset' (P := fun q => q = g) _ _ _ _ rfl) (fun e => hgne e.symm) (below_at (Below.refl _ _).drew x0)) (fun hHeld => ?_)
                  clear hK K
                  refine wpAnyH_done (by kernel_rfl) ?_ _
                  clear hHeld
                  clear c0 f0 x0
                  go_wp2
                  go_roundw
                  case rel => exact ⟨k + 1, by omega, by go_num, HPut⟩
                  case measure => simp [intOf]; omega
                · have HNx : Hid (Wr w9 wr M eb eo el (i + 1) 0) := HWk.out.row (by omega)
                  obtain rfl : k = el i := by omega
                  clear HWk
                  go_wp2
                  go_roundw
                  case rel => exact ⟨i + 1, by omega, by go_num, HNx⟩
                  case measure => simp [intOf]; omega
            · obtain rfl : M = i := by omega
              rename World => w10
              clear hiM hi
              have HCell : Hid (∀ a c, a < M → c < el a → w10.cell? ⟨eb a, eo a + c, none⟩ = some (.int .u8 (sg a c))) := fun a c ha hc => HWi.out.all ha hc
              have HBr10 : Hid (∀ a, a < M → w10.cell? ⟨gB, a, none⟩ = some (.slice (some ⟨eb a, eo a, none⟩) (el a) (el a))) := fun a ha => kept_cell HWi.out.kp (fun ⟨a', ha', e⟩ => (HEb.out a' ha').2.2.1 e.symm) (HBrow.out a ha)
              have HJ10 : Hid (J.Ok w10 B4 ∧ J.b = jb ∧ J.n = 2 ∧ ∀ j, J.own j → j = jb ∨ j = bp ∨ w7.heap.size ≤ j) := ⟨HJ9.out.1.keep HWi.out.kp (fun j hj ⟨a, ha, e⟩ => (HEb.out a ha).1 (e ▸ hj)), HJ9.out.2⟩
              have HK10 : Hid (Kept w7 w10 (fun q => (q = jb ∨ q = bp) ∨ q = gr1 ∨ q = gr2)) := (HK9.out.mono (fun q _ h => .inl h)).step HWi.out.kp (fun j ⟨a, ha, e⟩ => by
                subst e
                rcases (HEb.out a ha).2.1 with h | h | h
                · exact .inl (.inr (.inl h))
                · exact .inl (.inr (.inr h))
                · exact .inr h)
              have HL4 : Hid (∀ a, a < M → el a ≤ 4000) := fun a ha => (HEb.out a ha).2.2.2
              have hs10 := HK10.out.size
              clear HWi HBrow HJ9 HK9 HEb hgB9 hs9
              go_wp2_with fail
              go_loopw [21, 22] (fun v q wr => ∃ i : Nat, i ≤ M ∧ q = .int .i64 (i : Int) ∧ Hid (RS wr w10.heap.size v ((List.range i).map (fun a => gl a (el a + 64)))) ∧ Hid (Below w10.heap.size w10 wr)) (fun _ q _ => M - (intOf q).toNat)
              case atStart => exact ⟨0, Nat.zero_le _, rfl, rs_nil _ _, Below.refl _ _⟩
              case round =>
                obtain ⟨i, hi, rfl, HRG, HBG⟩ := hrel
                by_cases hiM : i < M
                · rename World => w11
                  have i1 : (0 : Int) ≤ (i : Int) := Int.natCast_nonneg _
                  have i2 : (i : Int) < (M : Int) := by omega
                  have x0 : w11.cell? ⟨gB, i, none⟩ = some (.slice (some ⟨eb i, eo i, none⟩) (el i) (el i)) := below_at HBG.out (HBr10.out i hiM)
                  have HCi : Hid (∀ c, c < el i → w11.cell? ⟨eb i, eo i + c, none⟩ = some (.int .u8 (sg i c))) := fun c hc => below_at HBG.out (HCell.out i c hiM hc)
                  have hLi := HL4.out i hiM
                  have Hnx : Hid (∀ (v' : Value) (W' : World), RS W' w10.heap.size v' ((List.range i).map (fun a => gl a (el a + 64)) ++ [gl i (el i + 64)]) → RS W' w10.heap.size v' ((List.range (i + 1)).map (fun a => gl a (el a + 64)))) := fun v' W' h => by rw [List.range_succ, List.map_append]; exact h
                  have hs11 := HBG.out.size
                  generalize eb i = g at *
                  generalize eo i = o at *
                  generalize el i = L at *
                  go_wp2_with fail
                  go_loopw [23, 24] (fun y q wr => ∃ k : Nat, k ≤ 64 ∧ q = .int .i64 (k : Int) ∧ Hid (GrY w11 wr i g o L k y) ∧ Hid (Below w11.heap.size w11 wr)) (fun _ q _ => 64 - (intOf q).toNat)
                  case atStart => exact ⟨0, Nat.zero_le _, rfl, .inl ⟨rfl, rfl⟩, Below.refl _ _⟩
                  case round =>
                    obtain ⟨k, hk, rfl, HGY, HBY⟩ := hrel
                    have hsr := HBY.out.size
                    by_cases hk64 : k < 64
                    · have k2 : (k : Int) < 64 := by omega
                      rcases HGY.out with ⟨hk0, hy⟩ | ⟨hk0, hy⟩
                      · subst hy
                        have HSg : Hid (∀ W', Calls Tryd.prog 24 #[.int .i64 (i : Int), .int .i64 (L : Int)] W' fun e w' => e = .returned (.int .u8 (sg i L)) ∧ W' = w') := fun W' => sign_any i L (by omega) (by omega)
                        have HCw : Hid (∀ j, j < L → wr.cell? ⟨g, o + j, none⟩ = some (.int .u8 ((gl i L).getD j 0))) := fun j hj => by rw [gl_at i L j hj]; exact below_at HBY.out (HCi.out j hj)
                        have HNk : Hid (∀ (v' : Value) (W' : World), Own W' w11.heap.size v' (gl i L ++ [sg i L]) → GrY w11 W' i g o L (k + 1) v') := fun v' W' h => .inr ⟨by omega, by rw [hk0, Nat.zero_add, gl_succ]; exact h⟩
                        generalize sg i L = sx at *
                        clear HGY hk0
                        go_wp2_with (first | (go_at_call 24; refine (HSg.out _).mono ?_; rintro e w' ⟨rfl, rfl⟩) | (at_builtin; refine wl_growB rfl _ _ rfl wr sx rfl g o L (gl i L) rfl (gl_len i L) HCw.out rfl (by omega) w11.heap.size (by omega) ?_) | fail)
                        intro v' w' h1 h2
                        have HN1 : Hid _ := HNk.out v' w' h1
                        have HN2 : Hid (Below w11.heap.size w11 w') := HBY.out.trans h2
                        clear h1 h2 HNk HCw HSg HBY
                        go_wp2
                        go_roundw
                        case rel => exact ⟨k + 1, by omega, by go_num, HN1, HN2⟩
                        case measure => simp [intOf]; omega
                      · obtain ⟨ya, yc, hye, _⟩ := hy.shape
                        rw [gl_len] at hye
                        subst hye
                        have HY : Hid (Own wr w11.heap.size (.slice ya (L + k) yc) (gl i (L + k))) := hy
                        have HSg : Hid (∀ W', Calls Tryd.prog 24 #[.int .i64 (i : Int), .int .i64 ((L + k : Nat) : Int)] W' fun e w' => e = .returned (.int .u8 (sg i (L + k))) ∧ W' = w') := fun W' => sign_any i (L + k) (by omega) (by omega)
                        have HNk : Hid (∀ (v' : Value) (W' : World), Own W' w11.heap.size v' (gl i (L + k) ++ [sg i (L + k)]) → GrY w11 W' i g o L (k + 1) v') := fun v' W' h => .inr ⟨by omega, by rw [← Nat.add_assoc, gl_succ]; exact h⟩
                        have hP : L + k ≤ 1000000 := by omega
                        have hgl := gl_len i (L + k)
                        generalize sg i (L + k) = sx at *
                        generalize gl i (L + k) = gs at *
                        generalize L + k = P at *
                        clear HGY hk0 hy
                        go_wp2_with (first | (go_at_call 24; refine (HSg.out _).mono ?_; rintro e w' ⟨rfl, rfl⟩) | (at_builtin; refine wl_pushB rfl _ _ rfl wr sx rfl _ gs rfl w11.heap.size HY.out rfl (by omega) (by omega) ?_) | fail)
                        intro v' w' h1 h2
                        have HN1 : Hid _ := HNk.out v' w' h1
                        have HN2 : Hid (Below w11.heap.size w11 w') := HBY.out.trans h2
                        clear h1 h2 HNk HSg HBY HY
                        go_wp2
                        go_roundw
                        case rel => exact ⟨k + 1, by omega, by go_num, HN1, HN2⟩
                        case measure => simp [intOf]; omega
                    · obtain rfl : k = 64 := by omega
                      rcases HGY.out with ⟨hk0, _⟩ | ⟨_, hy⟩
                      · omega
                      · obtain ⟨ya, yc, hye, _⟩ := hy.shape
                        rw [gl_len] at hye
                        subst hye
                        have HY : Hid (Own wr w11.heap.size (.slice ya (L + 64) yc) (gl i (L + 64))) := hy
                        have HRw : Hid (RS wr w10.heap.size u21 ((List.range i).map (fun a => gl a (el a + 64)))) := HRG.out.below HBY.out
                        have HBw : Hid (Below w10.heap.size w10 wr) := bstep HBG.out HBY.out
                        clear HGY hy hk64 hk
                        go_wp2_with (first | (at_builtin; refine wl_pushR rfl _ _ rfl wr w10 w10.heap.size _ ((List.range i).map (fun a => gl a (el a + 64))) (.slice ya (L + 64) yc) (gl i (L + 64)) rfl HRw.out (own_lower' HY.out hs11) rfl rfl (by rw [List.length_map, List.length_range]; omega) (by omega) HBw.out ?_) | fail)
                        intro v' w' h1 h2
                        have HN1 : Hid _ := Hnx.out v' w' h1
                        have HN2 : Hid (Below w10.heap.size w10 w') := h2
                        clear h1 h2 HY HRw HBw
                        go_wp2
                        go_roundw
                        case rel => exact ⟨i + 1, by omega, by go_num, HN1, HN2⟩
                        case measure => simp [intOf]; omega
                · obtain rfl : M = i := by omega
                  rename World => w12
                  clear hiM hi
                  obtain ⟨aG, cG, hvG⟩ := HRG.out.shape
                  rw [List.length_map, List.length_range] at hvG
                  subst hvG
                  obtain ⟨vals, hG1, hG2⟩ := HRG.out.out
                  rw [List.length_map, List.length_range] at hG1 hG2
                  rcases hG1.2 with ⟨_, h0⟩ | ⟨gG, cG', cur, hvG, _⟩
                  · omega
                  simp only [Value.slice.injEq] at hvG
                  obtain ⟨rfl, _, rfl⟩ := hvG
                  have HG : Hid (∀ a, a < M → ∃ ga ca, w12.cell? ⟨gG, a, none⟩ = some (.slice (some ⟨ga, 0, none⟩) (el a + 64) ca) ∧ ∀ c, c < el a + 64 → w12.cell? ⟨ga, c, none⟩ = some (.int .u8 (sg a c))) := fun a ha => by
                    obtain ⟨a', m', c', h3, h4⟩ := hG2 a ha
                    rw [show ((List.range M).map (fun a => gl a (el a + 64))).getD a [] = gl a (el a + 64) by simp [List.getD, ha]] at h4
                    obtain ⟨a2, c2, h5, h6⟩ := h4.shape
                    rw [gl_len] at h5 h6
                    rcases h6 with ⟨_, h7, _⟩ | ⟨g', h7, _, h8⟩
                    · have := gl_len a (el a + 64)
                      rw [h7] at this
                      simp at this
                    · subst h7
                      simp only [Value.slice.injEq] at h5
                      obtain ⟨rfl, rfl, rfl⟩ := h5
                      refine ⟨g', c', by rw [World.ownsRow.cellAt hG1 a (by omega), h3], fun c hc => ?_⟩
                      have h9 : Own w12 w10.heap.size (.slice (some ⟨g', 0, none⟩) (gl a (el a + 64)).length c') (gl a (el a + 64)) := by rw [gl_len]; exact h4
                      rw [h9.cell (i := c) (by rw [gl_len]; exact hc), gl_at _ _ _ hc]
                  have HC12 : Hid (∀ a c, a < M → c < el a → w12.cell? ⟨eb a, eo a + c, none⟩ = some (.int .u8 (sg a c))) := fun a c ha hc => below_at HBG.out (HCell.out a c ha hc)
                  have HB12 : Hid (∀ a, a < M → w12.cell? ⟨gB, a, none⟩ = some (.slice (some ⟨eb a, eo a, none⟩) (el a) (el a))) := fun a ha => below_at HBG.out (HBr10.out a ha)
                  have HK12 : Hid (Kept w7 w12 (fun q => (q = jb ∨ q = bp) ∨ q = gr1 ∨ q = gr2)) := HK10.out.step (Kept.ofBelow (HBG.out) (fun _ => False)) (fun _ h => h.elim)
                  have HJ12 : Hid (J.Ok w12 B4 ∧ J.b = jb ∧ J.n = 2 ∧ ∀ j, J.own j → j = jb ∨ j = bp ∨ w7.heap.size ≤ j) := ⟨HJ10.out.1.still HBG.out, HJ10.out.2⟩
                  have hs12' := HK12.out.size
                  clear hG1 hG2 HRG HBG HCell HBr10 HK10 HJ10 hs10
                  go_wp2_with fail
                  go_loopw [25] (fun q wr => ∃ i : Nat, i ≤ M ∧ q = .int .i64 (i : Int) ∧ Hid (Below w12.heap.size w12 wr)) (fun q _ => M - (intOf q).toNat)
                  case atStart => exact ⟨0, Nat.zero_le _, rfl, Below.refl _ _⟩
                  case round =>
                    obtain ⟨i, hi, rfl, HBi⟩ := hrel
                    by_cases hiM : i < M
                    · have i1 : (0 : Int) ≤ (i : Int) := Int.natCast_nonneg _
                      have i2 : (i : Int) < (M : Int) := by omega
                      obtain ⟨ga, ca, hga, hgc⟩ := HG.out i hiM
                      have HGa : Hid (w12.cell? ⟨gG, i, none⟩ = some (.slice (some ⟨ga, 0, none⟩) (el i + 64) ca)) := hga
                      have HGc : Hid (∀ c, c < el i + 64 → w12.cell? ⟨ga, c, none⟩ = some (.int .u8 (sg i c))) := hgc
                      have HBb : Hid (w12.cell? ⟨gB, i, none⟩ = some (.slice (some ⟨eb i, eo i, none⟩) (el i) (el i))) := HB12.out i hiM
                      have HBc : Hid (∀ c, c < el i → w12.cell? ⟨eb i, eo i + c, none⟩ = some (.int .u8 (sg i c))) := fun c hc => HC12.out i c hiM hc
                      have hLi := HL4.out i hiM
                      clear hga hgc
                      generalize eb i = g at *
                      generalize eo i = o at *
                      generalize el i = L at *
                      obtain ⟨P, hP⟩ : ∃ P, L + 64 = P := ⟨_, rfl⟩
                      rw [hP] at HGa HGc
                      have hLP : L ≤ P := by omega
                      have hP6 : P ≤ 4064 := by omega
                      clear hP
                      go_wp2_with fail
                      go_loopw [26] (fun q wr => ∃ k : Nat, k ≤ P ∧ q = .int .i64 (k : Int) ∧ Hid (Below w12.heap.size w12 wr)) (fun q _ => P - (intOf q).toNat)
                      case atStart => exact ⟨0, Nat.zero_le _, rfl, HBi⟩
                      case round =>
                        clear HBi
                        obtain ⟨k, hk, rfl, HBk⟩ := hrel
                        have x0 := below_at HBk.out HGa.out
                        have y0 := below_at HBk.out HBb.out
                        have k1 : (0 : Int) ≤ (k : Int) := Int.natCast_nonneg _
                        by_cases hkP : k < P
                        · have k2 : (k : Int) < (P : Int) := by omega
                          have x1 := below_at HBk.out (HGc.out k hkP)
                          have HSg : Hid (∀ W', Calls Tryd.prog 24 #[.int .i64 (i : Int), .int .i64 (k : Int)] W' fun e w' => e = .returned (.int .u8 (sg i k)) ∧ w' = W') := fun W' => (sign_any i k (by omega) (by omega)).mono fun e w' h => ⟨h.1, h.2.symm⟩
                          by_cases hkL : k < L
                          · have k3 : (k : Int) < (L : Int) := by omega
                            have y1 := below_at HBk.out (HBc.out k hkL)
                            generalize sg i k = sx at *
                            go_wp2_with fail
                            go_quiet ((go_at_call 24; exact Calls.quiet_of_same (HSg.out _)))
                            go_wp2
                            go_roundw
                            case rel => exact ⟨k + 1, by omega, by go_num, below_drewN HBk.out _⟩
                            case measure => simp [intOf]; omega
                          · have k3 : ¬ (k : Int) < (L : Int) := by omega
                            generalize sg i k = sx at *
                            go_wp2_with fail
                            go_quiet ((go_at_call 24; exact Calls.quiet_of_same (HSg.out _)))
                            go_wp2
                            go_roundw
                            case rel => exact ⟨k + 1, by omega, by go_num, below_drewN HBk.out _⟩
                            case measure => simp [intOf]; omega
                        · obtain rfl : P = k := by omega
                          go_wp2
                          go_roundw
                          case rel => exact ⟨i + 1, by omega, by go_num, HBk⟩
                          case measure => simp [intOf]; omega
                    · obtain rfl : M = i := by omega
                      rename World => w13
                      clear hiM hi
                      have HK13 : Hid (Kept w7 w13 (fun q => (q = jb ∨ q = bp) ∨ q = gr1 ∨ q = gr2)) := HK12.out.step (Kept.ofBelow HBi.out (fun _ => False)) (fun _ h => h.elim)
                      have HJ13 : Hid (J.Ok w13 B4 ∧ J.b = jb ∧ J.n = 2 ∧ ∀ j, J.own j → j = jb ∨ j = bp ∨ w7.heap.size ≤ j) := ⟨HJ12.out.1.still HBi.out, HJ12.out.2⟩
                      have HO13 : Hid (Own w13 w.heap.size (.slice (some ⟨gk, 0, none⟩) (n + 64) ck) (b ++ marks 64)) := HO7.out.keep HK13.out (fun q hq e => by simp [Value.ownBlock] at hq; omega)
                      have HFx13 : Hid (Fb w13 gcx 28 1 (rowF grx 7 1)) := HFx7.out.keep HK13.out (by omega)
                      have HBx13 : Hid (Bk w13 grx (cats lit7 1)) := HBx7.out.keep HK13.out (by omega)
                      have HQ13 : Hid (RQ w13 a7 N cs (fun q => lo ≤ q ∧ q < w7.heap.size)) := HQ7.out.keep HK13.out (fun q hq e => by omega)
                      have HW13 : Hid (Below w.heap.size w w13) := HW7.out.trans (HK13.out.below (by omega) (fun q hq => by omega))
                      have hs13 := HK13.out.size
                      clear HBi HK12 HJ12 HG HC12 HB12 HL4 hs12' HO7 HFx7 HBx7 HQ7 HW7 HK13 HF17 HF27 HB17 HB27
                      go_wp2_with fail
                      refine (split_ok (HO13.out.rdPre hby hl (by omega)) hn4 (HT.out.still HW13.out)).mono ?_
                      rw [hN]
                      rintro e w14 ⟨gc3, gr3, rfl, hgc3, hgr3, hF3, hB3, hb14⟩
                      have HF3 : Hid (Fb w14 gc3 28 N (rowF gr3 n N)) := hF3
                      have HB3 : Hid (Bk w14 gr3 (cats b N)) := hB3
                      have HQ14 : Hid (RQ w14 a7 N cs (fun q => lo ≤ q ∧ q < w7.heap.size)) := HQ13.out.still hb14
                      have HJ14 : Hid (J.Ok w14 B4 ∧ J.b = jb ∧ J.n = 2 ∧ ∀ j, J.own j → j = jb ∨ j = bp ∨ w7.heap.size ≤ j) := ⟨HJ13.out.1.still hb14, HJ13.out.2⟩
                      have HO14 : Hid (Own w14 w.heap.size (.slice (some ⟨gk, 0, none⟩) (n + 64) ck) (b ++ marks 64)) := HO13.out.still hb14
                      have HFx14 : Hid (Fb w14 gcx 28 1 (rowF grx 7 1)) := HFx13.out.keep (Kept.ofBelow hb14 (fun _ => False)) id
                      have HBx14 : Hid (Bk w14 grx (cats lit7 1)) := HBx13.out.still hb14
                      have HW14 : Hid (Below w.heap.size w w14) := bstep HW13.out hb14
                      have hs14 := hb14.size
                      have HP3 : Hid (∀ W', Below w14.heap.size w14 W' → ∀ i, i < N → Rd W' (some ⟨gr3, i * 256, none⟩) (ln n i) (ln n i) (chunk b i)) := fun W' hk i hi => by
                        have := piece_rd (w := W') (gr := gr3) (b := b) (i := i) (by omega) hby (by rw [hl, hN]; exact HB3.out.still hk) (by rw [hl, hN]; exact hi)
                        rw [hl] at this
                        exact this
                      have hnn : ((N : Int) != (N : Int)) = false := by simp
                      clear hF3 hB3 hb14 HQ13 HJ13 HO13 HFx13 HBx13 HW13
                      obtain ⟨ga7, rfl, _, _⟩ := HQ14.out.at_
                      go_wp2_with fail
                      go_loopw [29] (fun q wr => ∃ k : Nat, k ≤ N ∧ q = .int .i64 (k : Int) ∧ Hid (Below w14.heap.size w14 wr)) (fun q _ => N - (intOf q).toNat)
                      case atStart => exact ⟨0, Nat.zero_le _, rfl, Below.refl _ _⟩
                      case round =>
                        obtain ⟨k, hk, rfl, HBk⟩ := hrel
                        by_cases hlt : k < N
                        · have x0 : wr.cell? ⟨gc3, k, none⟩ = some (.slice (some ⟨gr3, k * 256, none⟩) (ln n k) (ln n k)) := below_at HBk.out (row_cell HF3.out hlt)
                          obtain ⟨_, h1, _, h2⟩ := HQ14.out.at_
                          cases h1
                          obtain ⟨ai, mi, ci, h3, h4, _⟩ := h2 k hlt
                          rw [HCS.out k hlt] at h4
                          have y0 : wr.cell? ⟨ga7, k, none⟩ = some (.slice ai mi ci) := below_at HBk.out h3
                          have HS : Hid (∀ W', Below wr.heap.size wr W' → Calls Tryd.prog 11 #[.slice (some ⟨gr3, k * 256, none⟩) (ln n k) (ln n k), .slice ai mi ci] W' fun e w' => e = .returned (.bool true) ∧ w' = W') := fun W' hb' => (same_any (HP3.out W' (bstep HBk.out hb') k hlt) (h4.still (bstep HBk.out hb'))).mono fun e w' hh => ⟨hh.1, hh.2.symm⟩
                          clear h2 h3 h4
                          generalize ln n k = mm at *
                          have i1 : (0 : Int) ≤ (k : Int) := Int.natCast_nonneg _
                          have i2 : (k : Int) < (N : Int) := by omega
                          go_wp2_with fail
                          go_quiet ((go_at_call 11; exact Calls.quiet_of_same (HS.out _ (by repeat (first | exact Below.refl _ _ | apply below_drewN | apply Below.drew)))))
                          go_wp2
                          go_roundw
                          case rel => exact ⟨k + 1, by omega, by go_num, below_drewN HBk.out _⟩
                          case measure => simp [intOf]; omega
                        · obtain rfl : N = k := by omega
                          rename World => w15
                          clear hlt hk
                          have HQ15 : Hid (RQ w15 (some ⟨ga7, 0, none⟩) N cs (fun q => lo ≤ q ∧ q < w7.heap.size)) := HQ14.out.still HBk.out
                          have HJ15 : Hid (J.Ok w15 B4 ∧ J.b = jb ∧ J.n = 2 ∧ ∀ j, J.own j → j = jb ∨ j = bp ∨ w7.heap.size ≤ j) := ⟨HJ14.out.1.still HBk.out, HJ14.out.2⟩
                          have HO15 : Hid (Own w15 w.heap.size (.slice (some ⟨gk, 0, none⟩) (n + 64) ck) (b ++ marks 64)) := HO14.out.still HBk.out
                          have HFx15 : Hid (Fb w15 gcx 28 1 (rowF grx 7 1)) := HFx14.out.keep (Kept.ofBelow HBk.out (fun _ => False)) id
                          have HBx15 : Hid (Bk w15 grx (cats lit7 1)) := HBx14.out.still HBk.out
                          have HW15 : Hid (Below w.heap.size w w15) := bstep HW14.out HBk.out
                          have hs15 := HBk.out.size
                          clear HQ14 HJ14 HO14 HFx14 HBx14 HW14 HBk HF3 HB3 HP3
                          have HGv : Hid (Calls Tryd.prog 23 #[.pointer (some ⟨jb, 0, none⟩), .int .i64 1, .slice (some ⟨ga7, 0, none⟩) N c7] w15 fun e w' => ∃ g' J', e = .returned (.tuple #[.slice (some ⟨g', 0, none⟩) n n, .bool true]) ∧ Bk w' g' b ∧ ¬ J'.own g' ∧ (J.own g' ∨ w15.heap.size ≤ g') ∧ Gv w15 w' B4 J J' 1) := (show Calls _ _ _ _ _ from by
                            have h1 := gives_any HJ15.out.1 (k := 1) (by rw [HJ15.out.2.2.1]; omega) (c := c7) HQ15.out (fun q hq => ⟨by omega, fun hh => by
                              rcases HJ15.out.2.2.2 q hh with e | e | e <;> omega⟩) HCS.out hn4 hl hN hby (HT.out.still HW15.out) hB4 (by omega)
                            rw [HJ15.out.2.1] at h1
                            exact h1)
                          go_wp2_with fail
                          refine HGv.out.mono ?_
                          rintro e w16 ⟨g', J', rfl, hbk, hno, hown, hgv⟩
                          have hK16 : Kept w15 w16 (fun q => B4 ≤ q) := hgv.kp.mono (fun q _ hh => HJ15.out.1.own_lo q hh)
                          have HO16 : Hid (Own w16 w.heap.size (.slice (some ⟨gk, 0, none⟩) (n + 64) ck) (b ++ marks 64)) := HO15.out.keep hK16 (fun q hq e => by simp [Value.ownBlock] at hq; omega)
                          have HFx16 : Hid (Fb w16 gcx 28 1 (rowF grx 7 1)) := HFx15.out.keep hK16 (by omega)
                          have HBx16 : Hid (Bk w16 grx (cats lit7 1)) := HBx15.out.keep hK16 (by omega)
                          have HW16 : Hid (Below w.heap.size w w16) := HW15.out.trans (hK16.below (by omega) (fun q hq => by omega))
                          have HJ16 : Hid (J'.Ok w16 B4 ∧ J'.b = jb ∧ J'.n = 2) := ⟨hgv.ok, hgv.b.trans HJ15.out.2.1, hgv.n.trans HJ15.out.2.2.1⟩
                          have hs16 := hgv.kp.size
                          have HS1 : Hid (Calls Tryd.prog 11 #[.slice (some ⟨g', 0, none⟩) n n, .slice ao n c] w16 fun e w' => e = .returned (.bool true) ∧ w16 = w') := (show Calls _ _ _ _ _ from by
                            have h1 := hbk.all n (by omega) hby
                            rw [hl] at h1
                            exact same_any h1 (Hr.out.still HW16.out))
                          have xx : w16.cell? ⟨gcx, 0, none⟩ = some (.slice (some ⟨grx, 0, none⟩) 15 15) := row_cell HFx16.out (i := 0) (by omega)
                          generalize hV17 : w16.alloc (.cells #[.int .u8 98, .int .u8 101, .int .u8 116, .int .u8 119, .int .u8 101, .int .u8 101, .int .u8 110] 5 (7, 8)) = w17
                          have hb17 : Below w16.heap.size w16 w17 := by rw [← hV17]; exact balloc (Below.refl _ _)
                          have HS2 : Hid (Calls Tryd.prog 11 #[.slice (some ⟨grx, 8, none⟩) 7 7, .slice (some ⟨w16.heap.size, 0, none⟩) 7 7] w17 fun e w' => e = .returned (.bool true) ∧ w17 = w') := (show Calls _ _ _ _ _ from by
                            have h1 := (HBx16.out.still hb17).rd 8 7 7 (by rw [cats7_len]; omega) (by omega) (cats_by lit7_by 1)
                            rw [cats7] at h1
                            have h2 := mark_rd w16
                            rw [hV17] at h2
                            exact same_any h1 h2)
                          have HO17 : Hid (Own w17 w.heap.size (.slice (some ⟨gk, 0, none⟩) (n + 64) ck) (b ++ marks 64)) := HO16.out.still hb17
                          have HIn : Hid (Calls Tryd.prog 19 #[.slice (some ⟨gk, 0, none⟩) n ck, .slice ao n c] w17 fun e w' => e = .returned (.bool true) ∧ w17 = w') := intact_any HO17.out hck (Hr.out.still (bstep HW16.out hb17)) (by omega)
                          have HW17 : Hid (Below w.heap.size w w17) := bstep HW16.out hb17
                          have HJ17 : Hid (J'.Ok w17 B4 ∧ J'.b = jb ∧ J'.n = 2) := ⟨HJ16.out.1.still hb17, HJ16.out.2⟩
                          have hs17 := hb17.size
                          have hcv := Lib.run_convert_bytes_const (P := Tryd.prog) w16 28 5 #[.int .u8 98, .int .u8 101, .int .u8 116, .int .u8 119, .int .u8 101, .int .u8 101, .int .u8 110] 7 7 Tryd.underlying28 Tryd.underlying5
                          simp only [List.size_toArray, List.length_cons, List.length_nil, Nat.zero_add, Nat.reduceAdd] at hcv
                          rw [hV17] at hcv
                          clear hbk hno hown hgv hK16 HO15 HFx15 HBx15 HW15 HJ15 HQ15 HGv HO16 HFx16 HBx16 HJ16 hb17 HCS
                          go_wp2_with (first | (go_at_call 11; first | (refine HS1.out.mono ?_; rintro e w' ⟨rfl, rfl⟩) | (refine HS2.out.mono ?_; rintro e w' ⟨rfl, rfl⟩)) | (go_at_call 19; refine HIn.out.mono ?_; rintro e w' ⟨rfl, rfl⟩) | fail)
                          clear HS1 HS2 HIn xx hcv hV17
                          go_loopw [32] (fun q wr => ∃ i : Nat, i ≤ n ∧ q = .int .i64 (i : Int) ∧ Hid (Own wr w.heap.size (.slice (some ⟨gk, 0, none⟩) (n + 64) ck) (xr i b ++ marks 64)) ∧ Hid (Kept w17 wr (fun q => q = gk))) (fun q _ => n - (intOf q).toNat)
                          case atStart => exact ⟨0, Nat.zero_le _, rfl, (show Own _ _ _ _ from by rw [xr_zero]; exact HO17.out), Kept.refl _ _⟩
                          case round =>
                            obtain ⟨i, hi, rfl, HOi, HKi⟩ := hrel
                            by_cases hin : i < n
                            · have i1 : (0 : Int) ≤ (i : Int) := Int.natCast_nonneg _
                              have i2 : (i : Int) < (n : Int) := by omega
                              have c0 : wr.cell? ⟨gk, i, none⟩ = some (.int .u8 (b.getD i 0)) := by
                                rw [sp_cell HOi.out (by rw [List.length_append, xr_len]; omega)]
                                rw [show (xr i b ++ marks 64).getD i 0 = (xr i b).getD i 0 by simp [List.getD, List.getElem?_append, xr_len, show i < b.length by omega], xr_get i b (by omega)]
                              have f0 : wr.frozen? ⟨gk, i, none⟩ = false := own_fz HOi.out
                              have HOn : Hid (Own (wr.setCell ⟨gk, i, none⟩ (.int .u8 (xz i (b.getD i 0)))) w.heap.size (.slice (some ⟨gk, 0, none⟩) (n + 64) ck) (xr (i + 1) b ++ marks 64)) := own_xr HOi.out (by rw [List.length_append, marks_len]; omega) (by omega)
                              have HKn : Hid (Kept w17 (wr.setCell ⟨gk, i, none⟩ (.int .u8 (xz i (b.getD i 0)))) (fun q => q = gk)) := HKi.out.step (kset' (P := fun q => q = gk) _ _ _ _ rfl) (fun j hj => .inl hj)
                              unfold xz at HOn HKn
                              generalize b.getD i 0 = bx at *
                              clear HOi HKi
                              go_wp2
                              go_roundw
                              case rel => exact ⟨i + 1, by omega, by go_num, HOn, HKn⟩
                              case measure => simp [intOf]; omega
                            · obtain rfl : n = i := by omega
                              rename World => w18
                              clear hin hi
                              obtain ⟨b2, hb2⟩ : ∃ b2, xr n b = b2 := ⟨_, rfl⟩
                              have hl2 : b2.length = n := by rw [← hb2, xr_len, hl]
                              have hby2 : By b2 := by rw [← hb2]; exact xr_by hby
                              have HO18 : Hid (Own w18 w.heap.size (.slice (some ⟨gk, 0, none⟩) (n + 64) ck) (b2 ++ marks 64)) := (show Own _ _ _ _ from by rw [← hb2]; exact HOi.out)
                              have HJ18 : Hid (J'.Ok w18 B4 ∧ J'.b = jb ∧ J'.n = 2) := ⟨HJ17.out.1.keep HKi.out (fun j hj e => by have := HJ17.out.1.own_lo j hj; omega), HJ17.out.2⟩
                              have HW18 : Hid (Below w.heap.size w w18) := HW17.out.trans (HKi.out.below (by omega) (fun q hq => by omega))
                              have hs18 := HKi.out.size
                              clear HOi HKi HJ17 HW17 HO17 hb2
                              go_wp2_with fail
                              refine (split_ok (HO18.out.rdPre hby2 hl2 (by omega)) hn4 (HT.out.still HW18.out)).mono ?_
                              rw [hN]
                              rintro e w19 ⟨gc4, gr4, rfl, hgc4, hgr4, hF4, hB4', hb19⟩
                              have HO19 : Hid (Own w19 w.heap.size (.slice (some ⟨gk, 0, none⟩) (n + 64) ck) (b2 ++ marks 64)) := HO18.out.still hb19
                              have HJ19 : Hid (J'.Ok w19 B4 ∧ J'.b = jb ∧ J'.n = 2 ∧ ∀ q, J'.own q → q < w18.heap.size) := ⟨HJ18.out.1.still hb19, HJ18.out.2.1, HJ18.out.2.2, fun q hq => HJ18.out.1.own_lt q hq⟩
                              have HW19 : Hid (Below w.heap.size w w19) := bstep HW18.out hb19
                              have HF4 : Hid (Fb w19 gc4 28 N (rowF gr4 n N)) := hF4
                              have HB4 : Hid (Bk w19 gr4 (cats b2 N)) := hB4'
                              have hgc4' := hF4.lt
                              have hgr4' := hB4'.lt
                              have hs19 := hb19.size
                              clear hF4 hB4' hb19 HO18 HJ18 HW18
                              go_wp2_with (first | (at_builtin; refine wl_copyB (w := w19) rfl _ _ rfl rfl rfl _ _ _ b2 rfl (HO19.out.rdPre hby2 hl2 (by omega)) (by omega) ?_) | fail)
                              intro v5 w20 ho20 hb20
                              obtain ⟨a5, c5, hv5, _⟩ := ho20.shape
                              rw [hl2] at hv5
                              subst hv5
                              have hr20 : Rd w20 a5 n c5 b2 := ho20.rd hby2
                              have hs20 := hb20.size
                              go_wp2_with fail
                              refine (split_ok hr20 hn4 (HT.out.still (bstep HW19.out hb20))).mono ?_
                              rw [hN]
                              rintro e w21 ⟨gc5, gr5, rfl, hgc5, hgr5, hF5, hB5', hb21⟩
                              have hb1921 : Below w19.heap.size w19 w21 := bstep hb20 hb21
                              have HO21 : Hid (Own w21 w.heap.size (.slice (some ⟨gk, 0, none⟩) (n + 64) ck) (b2 ++ marks 64)) := HO19.out.still hb1921
                              have HJ21 : Hid (J'.Ok w21 B4 ∧ J'.b = jb ∧ J'.n = 2 ∧ ∀ q, J'.own q → q < w18.heap.size) := ⟨HJ19.out.1.still hb1921, HJ19.out.2⟩
                              have HW21 : Hid (Below w.heap.size w w21) := bstep HW19.out hb1921
                              have HF421 : Hid (Fb w21 gc4 28 N (rowF gr4 n N)) := HF4.out.keep (Kept.ofBelow hb1921 (fun _ => False)) id
                              have HB421 : Hid (Bk w21 gr4 (cats b2 N)) := HB4.out.still hb1921
                              have HF521 : Hid (Fb w21 gc5 28 N (rowF gr5 n N)) := hF5
                              have HB521 : Hid (Bk w21 gr5 (cats b2 N)) := hB5'
                              have hs21 := hb1921.size
                              have HPQ : Hid (∀ gr, Bk w21 gr (cats b2 N) → ∀ W', Below w21.heap.size w21 W' → ∀ i, i < N → Rd W' (some ⟨gr, i * 256, none⟩) (ln n i) (ln n i) (chunk b2 i)) := fun gr hB W' hk i hi => by
                                have := piece_rd (w := W') (gr := gr) (b := b2) (i := i) (by omega) hby2 (by rw [hl2, hN]; exact hB.still hk) (by rw [hl2, hN]; exact hi)
                                rw [hl2] at this
                                exact this
                              clear hF5 hB5' hb21 hb1921 hb20 ho20 hr20 HO19 HJ19 HW19 HF4 HB4
                              go_wp2_with fail
                              go_loopw [37] (fun q wr => ∃ k : Nat, k ≤ N ∧ q = .int .i64 (k : Int) ∧ Hid (Below w21.heap.size w21 wr)) (fun q _ => N - (intOf q).toNat)
                              case atStart => exact ⟨0, Nat.zero_le _, rfl, Below.refl _ _⟩
                              case round =>
                                obtain ⟨k, hk, rfl, HBk⟩ := hrel
                                by_cases hlt : k < N
                                · have x0 : wr.cell? ⟨gc4, k, none⟩ = some (.slice (some ⟨gr4, k * 256, none⟩) (ln n k) (ln n k)) := below_at HBk.out (row_cell HF421.out hlt)
                                  have y0 : wr.cell? ⟨gc5, k, none⟩ = some (.slice (some ⟨gr5, k * 256, none⟩) (ln n k) (ln n k)) := below_at HBk.out (row_cell HF521.out hlt)
                                  have HS : Hid (∀ W', Below wr.heap.size wr W' → Calls Tryd.prog 11 #[.slice (some ⟨gr4, k * 256, none⟩) (ln n k) (ln n k), .slice (some ⟨gr5, k * 256, none⟩) (ln n k) (ln n k)] W' fun e w' => e = .returned (.bool true) ∧ w' = W') := fun W' hb' => (same_any (HPQ.out gr4 HB421.out W' (bstep HBk.out hb') k hlt) (HPQ.out gr5 HB521.out W' (bstep HBk.out hb') k hlt)).mono fun e w' hh => ⟨hh.1, hh.2.symm⟩
                                  generalize ln n k = mm at *
                                  have i1 : (0 : Int) ≤ (k : Int) := Int.natCast_nonneg _
                                  have i2 : (k : Int) < (N : Int) := by omega
                                  go_wp2_with fail
                                  go_quiet ((go_at_call 11; exact Calls.quiet_of_same (HS.out _ (by repeat (first | exact Below.refl _ _ | apply below_drewN | apply Below.drew)))))
                                  go_wp2
                                  go_roundw
                                  case rel => exact ⟨k + 1, by omega, by go_num, below_drewN HBk.out _⟩
                                  case measure => simp [intOf]; omega
                                · obtain rfl : N = k := by omega
                                  rename World => w22
                                  clear hlt hk
                                  have HQ22 : Hid (RQ w22 (some ⟨gc4, 0, none⟩) N (chunk b2) (fun q => q = gc4 ∨ q = gr4)) := fb_rq (HF421.out.keep (Kept.ofBelow HBk.out (fun _ => False)) id) (HB421.out.still HBk.out) hn4 hl2 hN hby2
                                  have HO22 : Hid (Own w22 w.heap.size (.slice (some ⟨gk, 0, none⟩) (n + 64) ck) (b2 ++ marks 64)) := HO21.out.still HBk.out
                                  have HJ22 : Hid (J'.Ok w22 B4 ∧ J'.b = jb ∧ J'.n = 2 ∧ ∀ q, J'.own q → q < w18.heap.size) := ⟨HJ21.out.1.still HBk.out, HJ21.out.2⟩
                                  have HW22 : Hid (Below w.heap.size w w22) := bstep HW21.out HBk.out
                                  have hs22 := HBk.out.size
                                  clear HO21 HJ21 HW21 HF421 HB421 HF521 HB521 HPQ HBk
                                  have HGv : Hid (Calls Tryd.prog 23 #[.pointer (some ⟨jb, 0, none⟩), .int .i64 0, .slice (some ⟨gc4, 0, none⟩) N N] w22 fun e w' => ∃ g' J2, e = .returned (.tuple #[.slice (some ⟨g', 0, none⟩) n n, .bool true]) ∧ Bk w' g' b2 ∧ ¬ J2.own g' ∧ (J'.own g' ∨ w22.heap.size ≤ g') ∧ Gv w22 w' B4 J' J2 0) := (show Calls _ _ _ _ _ from by
                                    have h1 := gives_any HJ22.out.1 (k := 0) (by rw [HJ22.out.2.2.1]; omega) (c := N) HQ22.out (fun q hq => ⟨by omega, fun hh => by
                                      have := HJ22.out.2.2.2 q hh
                                      omega⟩) (fun _ _ => rfl) hn4 hl2 hN hby2 (HT.out.still HW22.out) hB4 (by omega)
                                    rw [HJ22.out.2.1] at h1
                                    exact h1)
                                  go_wp2_with fail
                                  refine HGv.out.mono ?_
                                  rintro e w23 ⟨g2, J2, rfl, hbk, hno, hown, hgv⟩
                                  have HW23 : Hid (Below w.heap.size w w23) := HW22.out.trans (hgv.kp.below (by omega) (fun q hq hh => by have := HJ22.out.1.own_lo q hh; omega))
                                  have HS1 : Hid (Calls Tryd.prog 11 #[.slice (some ⟨g2, 0, none⟩) n n, .slice (some ⟨gk, 0, none⟩) n ck] w23 fun e w' => e = .returned (.bool true) ∧ w23 = w') := (show Calls _ _ _ _ _ from by
                                    have h1 := hbk.all n (by omega) hby2
                                    rw [hl2] at h1
                                    have h2 := HO22.out.keep hgv.kp (fun q hq hh => by
                                      simp [Value.ownBlock] at hq
                                      have := HJ22.out.1.own_lo q hh
                                      omega)
                                    exact same_any h1 (h2.rdPre hby2 hl2 (by omega)))
                                  clear hbk hno hown hgv HO22 HJ22 HW22 HQ22 HGv
                                  go_wp2_with (first | (go_at_call 11; refine HS1.out.mono ?_; rintro e w' ⟨rfl, rfl⟩) | fail)
                                  go_ret
                                  exact ⟨rfl, HW23.out⟩
end
end Go.Proofs.YtmphabgpabbbjaaDoor.Fg
