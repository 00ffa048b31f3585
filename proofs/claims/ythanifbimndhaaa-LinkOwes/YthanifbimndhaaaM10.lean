import Derived.Test.YthanifbimndhaaaM9
namespace Go.Proofs.Ythanifbimndhaaa.Ln
set_option maxHeartbeats 40000000
open Go.RowKit Mb
set_option linter.unusedVariables false
set_option maxRecDepth 100000
set_option linter.unusedSimpArgs false
def rnp (xs : List Int) (q : Nat) : Rn := ⟨decide ((q : Int) ∈ xs), .slice none 0 0, [], 0, 0, .slice none 0 0, [], false⟩
def rs (xs : List Int) (i : Nat) : List Value := (List.range i).flatMap fun q => (rnp xs q).cs
abbrev z6e : List Value := [.bool false, .slice none 0 0, .int .i64 0, .int .i64 0, .slice none 0 0, .bool false]
section
variable {w w' W : World} {B T : Nat} {R R' : Rx} {r r' : Rn}
theorem rs_succ (xs : List Int) (i : Nat) : rs xs (i + 1) = rs xs i ++ (rnp xs i).cs := by simp [rs, List.range_succ]
theorem rs_len (xs : List Int) (i : Nat) : (rs xs i).length = i * 6 := by
 induction i with
 | zero => rfl
 | succ i ih => rw [rs_succ, List.length_append, ih]; simp [Rn.cs]; omega
theorem rs_at (xs : List Int) : ∀ (i j : Nat), j < i * 6 -> (rs xs i)[j]? = some (rrf (rnp xs) j)
 | 0, j, h => by omega
 | i + 1, j, h => by
   rw [rs_succ]
   by_cases hj : j < i * 6
   ·rw [List.getElem?_append_left (by rw [rs_len]; exact hj)]
    exact rs_at xs i j hj
   ·rw [List.getElem?_append_right (by rw [rs_len]; omega), rs_len]
    unfold rrf
    rw [show j / 6 = i by omega, show j - i * 6 = j % 6 by omega]
    have : j % 6 < ((rnp xs i).cs).length := by simp [Rn.cs]; omega
    simp [List.getD, this]
theorem rk_of {g t s n c m : Nat} {xs : List Value} {f : Nat -> Value} (h : w.ownsRow B t s (.slice (some ⟨g, 0, none⟩) n c) n xs) (hm : m ≤ n * s) (hx : ∀ j, j < m -> xs[j]? = some (f j)) : Rk w g t m f := by
 rcases h.2 with ⟨h1, _⟩ | ⟨g', cap, cur, hv, hg, hh, hr1, hr2, hr3, hr4⟩
 ·cases h1
 ·simp at hv
  obtain ⟨rfl, rfl⟩ := hv
  refine ⟨cur, hh, fun j hj => ?_⟩
  have e1 : cur[j]? = (cur.toList.take (n * s))[j]? := by rw [List.getElem?_take]; simp [show j < n * s by omega]
  rw [e1, hr4]
  exact hx j hj
theorem rnp_ok (xs : List Int) (q : Nat) : (rnp xs q).Ok w B T := ⟨⟨rfl, .inl ⟨rfl, rfl⟩⟩, ⟨rfl, .inl ⟨rfl, rfl⟩⟩, fun y hy => (by cases hy), fun x hx => (by cases hx), Nat.le_refl _, Nat.zero_le _, Nat.zero_le _, fun x hx => (by cases hx)⟩
theorem end_info : ∃ i : TypeInfo, Try.prog.info? 107 = some i /\ i.zero = some (.agg z6e.toArray) /\ i.size = 6 /\ i.bytes = 80 := by
 have h : (Try.prog.info? 107).map (fun i => (i.zero, i.size, i.bytes)) = some (some (.agg z6e.toArray), 6, 80) := by kernel_rfl
 cases hq : Try.prog.info? 107 with
 | none => rw [hq] at h; cases h
 | some i => rw [hq] at h; simp at h; exact ⟨i, rfl, by rw [h.1], h.2.1, h.2.2⟩
theorem info_end : (Try.prog.info? 107).map (·.size) = some 6 := by kernel_rfl
theorem wl_pushE {ops : Array Oper} {rest : List Oper} {o : Oper} {a : Act} {Q : Exit -> Act -> World -> Prop} (hgd : o.guard = none) (s x : Operand)
  (ho : o.op = .call { callee := .builtin .append, args := #[s, x], argTypes := #[108, 108] })
  (w0 : World) (v : Value) (vals : List Value) (L : List Value) (hL : L.length = 6) (hL1 : ∀ u ∈ L, u.oneCell' = true) (hs : a.eval s = v) (n : Nat) (hown : w0.ownsRow B 107 6 v n vals) (hw : w = w0.alloc (.cells L.toArray 107)) (hx : a.eval x = .slice (some ⟨w0.heap.size, 0, none⟩) 1 1)
  (hn : n + 1 ≤ 1000000) (hbase : B ≤ w0.heap.size)
  (h : ∀ g cap w', w'.ownsRow B 107 6 (.slice (some ⟨g, 0, none⟩) (n + 1) cap) (n + 1) (vals ++ L) -> Kept w0 w' (fun k => v.ownBlock = some k) -> (v.ownBlock = some g ∨ w0.heap.size ≤ g) -> g < w'.heap.size -> wpList Try.prog ops Q rest (a.put o.dst (.slice (some ⟨g, 0, none⟩) (n + 1) cap)) w') : wpList Try.prog ops Q (o :: rest) a w := by
 obtain ⟨i0, hi, hz0, hz1, hz2⟩ := end_info
 subst hw
 refine wpList_append_lies _ hgd s x 108 ho B 107 i0 (.agg z6e.toArray) 6 80 Try.underlying108 hi hz0 hz1 hz2 rfl (by decide) v n vals hs (World.ownsRow.alloc hown _) ⟨w0.heap.size, 0, none⟩ 1 1 L hx (by rw [hL]) (fun j y hy => by rw [Addr.add_mid, Nat.zero_add, bC (heap_alloc_new _ _), List.getElem?_toArray, hy]) hL1 (by omega) (by unfold maxLen; omega) (by omega) (by simp; omega) _ rfl fun g cap w' h2 h3 h4 h5 => h g cap w' h2 ?_ ?_ h5
 ·exact (Kept.ofBelow ((Below.refl _ w0).alloc (Nat.le_refl _) (.cells L.toArray 107)) _).step (Kept.ofGrown h3) (fun j hj => .inl hj.symm)
 ·rcases h4 with h4 | h4
  ·exact .inl h4
  ·right; rw [h4]; simp
theorem row_shape' {B t sz n : Nat} {v : Value} {l : List Value} (h : w.ownsRow B t sz v n l) : ∃ a c, v = .slice a n c := by
 rcases h.2 with ⟨h1, h2⟩ | ⟨g, cap, cur, hv, _⟩
 ·exact ⟨none, 0, by rw [h1, h2]⟩
 ·exact ⟨_, _, hv⟩
theorem rnp_one (xs : List Int) (q : Nat) : ∀ u ∈ (rnp xs q).cs, u.oneCell' = true := by
 intro u hu
 simp only [Rn.cs, rnp, List.mem_cons, List.not_mem_nil, or_false] at hu
 rcases hu with rfl | rfl | rfl | rfl | rfl | rfl <;> rfl
structure NwS (w wr : World) (n sf win space i : Nat) (v : Value) : Prop where
 blk : wr.heap[w.heap.size]? = some (.cells #[.int .i64 (n : Int), .int .i64 (sf : Int), .int .i64 (win : Int), .int .i64 (space : Int), .int .i64 0, .int .i64 0, .int .i64 0, .int .i64 0, v] 110 (0, 0))
 row : wr.ownsRow w.heap.size 107 6 v i (rs [] i)
 bel : Below w.heap.size w wr
structure NwO (w w' : World) (n sf win space : Nat) (e : Ending) : Prop where
 out : ∃ g c, e = .returned (.tuple #[.pointer (some ⟨w.heap.size, 0, none⟩), .int .i64 0]) /\ (⟨w.heap.size, g, c, n, sf, win, space, ⟨0, 0, 0, 0⟩, rnp []⟩ : Rx).Ok w' w.heap.size 0 /\ Below w.heap.size w w'
theorem NwS.fin {wr : World} {n self win space : Nat} {v : Value} (h : NwS w wr n self win space n v) (h1 : 1 ≤ n) (h2 : n ≤ 16) (h3 : self < n) (h4 : 1 ≤ win) (h5 : win ≤ space) (h6 : space ≤ 20000) : NwO w wr n self win space (.returned (.tuple #[.pointer (some ⟨w.heap.size, 0, none⟩), .int .i64 0])) := by
 rcases h.row.2 with ⟨_, h0⟩ | ⟨g, cap, cur, hv, hg, hh, hr1, _⟩
 ·omega
 ·subst hv
  exact ⟨g, cap, rfl, ⟨h.blk, rk_of h.row (Nat.le_refl _) (rs_at [] n), fun q _ => rnp_ok [] q, fun p q k _ _ _ hk => (by cases hk), fun p q k _ _ _ hk => (by cases hk), ⟨h1, h2, h3, hr1⟩, ⟨h4, h5, h6⟩, ⟨Nat.le_refl _, hg⟩, by omega⟩, h.bel⟩
theorem rnew_ok {n self win space : Nat} (h1 : 1 ≤ n) (h2 : n ≤ 16) (h3 : self < n) (h4 : 1 ≤ win) (h5 : win ≤ space) (h6 : space ≤ 20000) : Calls Try.prog 29 #[.int .i64 (n : Int), .int .i64 (self : Int), .int .i64 (win : Int), .int .i64 (space : Int)] w fun e w' => NwO w w' n self win space e := by
 generalize hW : w.alloc (.cells #[.int .i64 (n : Int), .int .i64 (self : Int), .int .i64 (win : Int), .int .i64 (space : Int), .int .i64 0, .int .i64 0, .int .i64 0, .int .i64 0, .slice none 0 0] 110) = W
 have HF0 : Hid (NwS w W n self win space 0 (.slice none 0 0)) := (show NwS _ _ _ _ _ _ _ _ from ⟨by rw [<- hW]; exact heap_alloc_new _ _, ⟨rfl, .inl ⟨rfl, rfl⟩⟩, by rw [<- hW]; exact balloc (Below.refl _ _)⟩)
 have t1 : ¬ (n : Int) < 1 := by omega
 have t2 : ¬ (n : Int) > 16 := by omega
 have t3 : ¬ (self : Int) < 0 := by omega
 have t4 : ¬ (self : Int) ≥ (n : Int) := by omega
 have t5 : ¬ (space : Int) < 1 := by omega
 have t6 : ¬ (space : Int) > 20000 := by omega
 have t7 : ¬ (win : Int) < 1 := by omega
 have t8 : ¬ (win : Int) > (space : Int) := by omega
 go_enter Try.func29, Try.ntmps29
 go_wp2
 go_loopw [11] (fun v11 wr => ∃ i : Nat, i ≤ n /\ v11 = .int .i64 (i : Int) /\ Hid (∃ v, NwS w wr n self win space i v)) (fun v11 _ => n - (intOf v11).toNat)
 case atStart => exact ⟨0, by omega, rfl, (show ∃ v, NwS _ _ _ _ _ _ _ v from ⟨_, HF0.out⟩)⟩
 case round =>
  clear HF0
  obtain ⟨i, hi, rfl, hst⟩ := hrel
  obtain ⟨v, hS⟩ := hst.out
  clear hst
  by_cases hlt : i < n
  ·have i2 : (i : Int) < (n : Int) := by omega
   have c8 : wr.cell? ⟨w.heap.size, 8, none⟩ = some v := bC hS.blk 8
   obtain ⟨va, vc, hv⟩ := row_shape' hS.row
   rw [hv] at c8
   have HO : Hid (wr.ownsRow w.heap.size 107 6 (.slice va i vc) i (rs [] i)) := (show World.ownsRow _ _ _ _ _ _ _ from by rw [<- hv]; exact hS.row)
   have hvb : ∀ j, (Value.slice va i vc).ownBlock = some j -> ¬ j = w.heap.size := fun j hj e => by
    rw [<- hv] at hj
    obtain ⟨C, hC⟩ := own_ty hS.row hj
    exact blk_ne hC hS.blk (by decide) e
   have HS : Hid (NwS w wr n self win space i v) := hS
   have HK : Hid (∀ w4, Kept wr w4 (fun k => (Value.slice va i vc).ownBlock = some k) -> w4.heap[w.heap.size]? = some (.cells #[.int .i64 (n : Int), .int .i64 (self : Int), .int .i64 (win : Int), .int .i64 (space : Int), .int .i64 0, .int .i64 0, .int .i64 0, .int .i64 0, .slice va i vc] 110 (0, 0))) := fun w4 hk => (show _ = _ from by have := hk.obj hS.blk (fun e => hvb _ e rfl); rw [hv] at this; exact this)
   have HN : Hid (∀ g cap w4, w4.ownsRow w.heap.size 107 6 (.slice (some ⟨g, 0, none⟩) (i + 1) cap) (i + 1) (rs [] i ++ z6e) -> Kept wr w4 (fun k => (Value.slice va i vc).ownBlock = some k) -> ((Value.slice va i vc).ownBlock = some g ∨ wr.heap.size ≤ g) -> NwS w (w4.setCell ⟨w.heap.size, 8, none⟩ (.slice (some ⟨g, 0, none⟩) (i + 1) cap)) n self win space (i + 1) (.slice (some ⟨g, 0, none⟩) (i + 1) cap)) := fun g cap w4 ho hk hg => (show NwS _ _ _ _ _ _ _ _ from by
    have hgn : ¬ g = w.heap.size := by
     rcases hg with hg | hg
     ·exact hvb g hg
     ·have := lt_heap hS.blk; omega
    refine ⟨blk_set (HK.out w4 hk) rfl, ?_, ?_⟩
    ·rw [rs_succ]
     exact (kset (P := fun j => j = w.heap.size) _ _ _ _ rfl).owns ho fun j hj e => by cases hj; exact hgn e
    ·refine bset (hS.bel.trans ((hk.below hS.bel.size fun j hj e => ?_))) (Nat.le_refl _) _ _
     rw [<- hv] at e
     have := (World.ownsRow.lt hS.row j e).1
     omega)
   have Hsz : Hid (w.heap.size ≤ wr.heap.size) := (show _ ≤ _ from hS.bel.size)
   clear hS hv hvb
   go_wp2_with (first | (at_builtin; refine wl_pushE rfl _ _ rfl wr _ _ z6e rfl (rnp_one [] 0) rfl i HO.out rfl rfl (by omega) Hsz.out ?_) | fail)
   intro g cap w4 ho hk hg hl
   have d8 : w4.cell? ⟨w.heap.size, 8, none⟩ = some (.slice va i vc) := bC (HK.out w4 hk) 8
   have f8 := frozen_of_row w4 w.heap.size 8 _ _ (HK.out w4 hk)
   have HZ : Hid (∃ v, NwS w (w4.setCell ⟨w.heap.size, 8, none⟩ (.slice (some ⟨g, 0, none⟩) (i + 1) cap)) n self win space (i + 1) v) := (show ∃ v, NwS _ _ _ _ _ _ _ v from ⟨_, HN.out g cap w4 ho hk hg⟩)
   clear ho hk hg hl HN HK HO c8 HS
   go_wp2
   exact ⟨⟨i + 1, by omega, by go_num, HZ⟩, by simp [intOf]; omega⟩
  ·have hin : i = n := by omega
   rw [hin] at hS
   have HZ : Hid (NwO w wr n self win space (.returned (.tuple #[.pointer (some ⟨w.heap.size, 0, none⟩), .int .i64 0]))) := hS.fin h1 h2 h3 h4 h5 h6
   have i2 : ¬ (i : Int) < (n : Int) := by omega
   clear hS hin
   go_wp2
   exact bodyPost_ret (v := .tuple #[.pointer (some ⟨w.heap.size, 0, none⟩), .int .i64 0]) (by simp [results, Try.results29, go_sem]) rfl HZ.out
def nwB (n self win space : Int) : Bool := inR 1 16 n && inR 0 (n - 1) self && inR 1 20000 space && inR 1 space win
theorem rnew_no {n self win space : Int} (h : nwB n self win space = false) : Calls Try.prog 29 #[.int .i64 n, .int .i64 self, .int .i64 win, .int .i64 space] w fun e w' => e = .returned (.tuple #[.pointer none, .int .i64 1]) /\ w = w' := by
 have hh : n < 1 ∨ n > 16 ∨ self < 0 ∨ self ≥ n ∨ space < 1 ∨ space > 20000 ∨ win < 1 ∨ win > space := by simp [nwB, inR] at h; omega
 clear h
 by_cases t1 : n < 1
 ·clear hh; go_enter Try.func29, Try.ntmps29; go_wp2; exact bodyPost_ret (v := .tuple #[.pointer none, .int .i64 1]) (by simp [results, Try.results29, go_sem]) rfl ⟨rfl, rfl⟩
 by_cases t2 : n > 16
 ·clear hh; go_enter Try.func29, Try.ntmps29; go_wp2; exact bodyPost_ret (v := .tuple #[.pointer none, .int .i64 1]) (by simp [results, Try.results29, go_sem]) rfl ⟨rfl, rfl⟩
 by_cases t3 : self < 0
 ·clear hh; go_enter Try.func29, Try.ntmps29; go_wp2; exact bodyPost_ret (v := .tuple #[.pointer none, .int .i64 1]) (by simp [results, Try.results29, go_sem]) rfl ⟨rfl, rfl⟩
 by_cases t4 : self ≥ n
 ·clear hh; go_enter Try.func29, Try.ntmps29; go_wp2; exact bodyPost_ret (v := .tuple #[.pointer none, .int .i64 1]) (by simp [results, Try.results29, go_sem]) rfl ⟨rfl, rfl⟩
 by_cases t5 : space < 1
 ·clear hh; go_enter Try.func29, Try.ntmps29; go_wp2; exact bodyPost_ret (v := .tuple #[.pointer none, .int .i64 1]) (by simp [results, Try.results29, go_sem]) rfl ⟨rfl, rfl⟩
 by_cases t6 : space > 20000
 ·clear hh; go_enter Try.func29, Try.ntmps29; go_wp2; exact bodyPost_ret (v := .tuple #[.pointer none, .int .i64 1]) (by simp [results, Try.results29, go_sem]) rfl ⟨rfl, rfl⟩
 by_cases t7 : win < 1
 ·clear hh; go_enter Try.func29, Try.ntmps29; go_wp2; exact bodyPost_ret (v := .tuple #[.pointer none, .int .i64 1]) (by simp [results, Try.results29, go_sem]) rfl ⟨rfl, rfl⟩
 have t8 : win > space := by omega
 clear hh
 go_enter Try.func29, Try.ntmps29
 go_wp2
 exact bodyPost_ret (v := .tuple #[.pointer none, .int .i64 1]) (by simp [results, Try.results29, go_sem]) rfl ⟨rfl, rfl⟩
end
section
variable {w w' W : World} {B T : Nat} {R R' : Rx} {r r' : Rn}
theorem RdI.at_' {ao : Option Addr} {n c : Nat} {xs : List Int} (h : RdI w ao n c xs) : n = 0 ∨ ∃ b off, ao = some ⟨b, off, none⟩ /\ ∀ i, i < n -> w.cell? ⟨b, off + i, none⟩ = some (.int .i64 (xs.getD i 0)) := h.at_
theorem rreset_tag (h : R.Ok w B T) (t : Tg) {ao : Option Addr} {k c : Nat} (ht : t.whole = false) : Calls Try.prog 35 #[.pointer (some ⟨R.b, 0, none⟩), .agg #[.int .i64 t.e, .int .i64 t.l, .int .i64 t.i, .int .i64 t.c], .slice ao k c] w fun e w' => e = .returned (.int .i64 40) /\ Below w.heap.size w w' := by
 generalize hW : w.alloc (.cells #[.int .i64 t.e, .int .i64 t.l, .int .i64 t.i, .int .i64 t.c] 39) = W
 have hbW := bW0 hW
 have hblk := hQ0 hW
 have HRg : Hid (∀ D : World, D.heap[w.heap.size]? = some (.cells #[.int .i64 t.e, .int .i64 t.l, .int .i64 t.i, .int .i64 t.c] 39 (0, 0)) -> D.rangeAt w.heap.size 0 t.vs) := fun D hD => (show World.rangeAt _ _ _ _ from blk_range (L := t.vs) hD)
 have HRg0 : Hid (W.rangeAt w.heap.size 0 t.vs) := HRg.out W hblk
 have Hblk : Hid (W.heap[w.heap.size]? = some (.cells #[.int .i64 t.e, .int .i64 t.l, .int .i64 t.i, .int .i64 t.c] 39 (0, 0))) := hblk
 have HbW : Hid (Below w.heap.size w W) := hbW
 have HWh : Hid (Calls Try.prog 78 #[.agg #[.int .i64 t.e, .int .i64 t.l, .int .i64 t.i, .int .i64 t.c]] W fun e w' => e = .returned (.bool false) /\ Below W.heap.size W w') := (show Calls _ _ _ _ _ from by have := rwhole_any (w := W) t; rw [ht] at this; exact this)
 clear h ht hblk hbW
 go_enter Try.func35, Try.ntmps35
 go_wp2_with (first | (refine at_load 39 (.tmp 4) rfl ?_; refine load_mid 39 (.tmp 4) HRg0.out _ Try.underlying39 rfl info_id rfl rfl rfl ?_) | (go_at_call 78; refine HWh.out.mono ?_) | fail)
 rintro e w1 ⟨rfl, hb1⟩
 have HZ : Hid (Below w.heap.size w w1) := (show Below _ _ _ from bstep HbW.out hb1)
 clear hb1
 go_wp2
 go_ret
 exact ⟨rfl, HZ.out⟩
theorem rreset_arg (h : R.Ok w B T) (t : Tg) {ao : Option Addr} {k c : Nat} {xs : List Int} (hr : RdI w ao k c xs) (hk : k ≤ 1000000000000000) (ht : t.whole = true) (ho : okP R.n R.self 0 xs = false) : Calls Try.prog 35 #[.pointer (some ⟨R.b, 0, none⟩), .agg #[.int .i64 t.e, .int .i64 t.l, .int .i64 t.i, .int .i64 t.c], .slice ao k c] w fun e w' => e = .returned (.int .i64 1) /\ Below w.heap.size w w' := by
 generalize hW : w.alloc (.cells #[.int .i64 t.e, .int .i64 t.l, .int .i64 t.i, .int .i64 t.c] 39) = W
 have hbW := bW0 hW
 have hblk := hQ0 hW
 have HRg : Hid (∀ D : World, D.heap[w.heap.size]? = some (.cells #[.int .i64 t.e, .int .i64 t.l, .int .i64 t.i, .int .i64 t.c] 39 (0, 0)) -> D.rangeAt w.heap.size 0 t.vs) := fun D hD => (show World.rangeAt _ _ _ _ from blk_range (L := t.vs) hD)
 have HRg0 : Hid (W.rangeAt w.heap.size 0 t.vs) := HRg.out W hblk
 have Hblk : Hid (W.heap[w.heap.size]? = some (.cells #[.int .i64 t.e, .int .i64 t.l, .int .i64 t.i, .int .i64 t.c] 39 (0, 0))) := hblk
 have HbW : Hid (Below w.heap.size w W) := hbW
 have HWh : Hid (Calls Try.prog 78 #[.agg #[.int .i64 t.e, .int .i64 t.l, .int .i64 t.i, .int .i64 t.c]] W fun e w' => e = .returned (.bool true) /\ Below W.heap.size W w') := (show Calls _ _ _ _ _ from by have := rwhole_any (w := W) t; rw [ht] at this; exact this)
 have HR : Hid (R.Ok w B T) := h
 have Hrd : Hid (RdI w ao k c xs) := hr
 have HOk : Hid (okP R.n R.self 0 xs = false) := ho
 clear h ht hblk hbW hr ho
 go_enter Try.func35, Try.ntmps35
 go_wp2_with (first | (refine at_load 39 (.tmp 4) rfl ?_; refine load_mid 39 (.tmp 4) HRg0.out _ Try.underlying39 rfl info_id rfl rfl rfl ?_) | (go_at_call 78; refine HWh.out.mono ?_) | fail)
 rintro e w1 ⟨rfl, hb1⟩
 have HR1 : Hid (R.Ok w1 B T) := (HR.out.still HbW.out).still hb1
 have Hb1 : Hid (Below W.heap.size W w1) := hb1
 clear hb1 HWh
 go_wp2
 go_loopw [7, 8] (fun v7 v8 wr => ∃ (i : Nat) (last : Int), i ≤ k /\ v7 = .int .i64 last /\ v8 = .int .i64 (i : Int) /\ -1 ≤ last /\ last < 16 /\ Hid (okP R.n R.self (last + 1) (xs.drop i) = false) /\ Hid (Below w1.heap.size w1 wr)) (fun _ v8 _ => k - (intOf v8).toNat)
 case atStart => exact ⟨0, -1, by omega, rfl, rfl, by omega, by omega, (show _ = _ from HOk.out), Below.refl _ _⟩
 case round =>
  obtain ⟨i, last, hi, rfl, rfl, hl1, hl2, hok, hb⟩ := hrel
  have hRr := HR1.out.still hb.out
  by_cases hlt : i < k
  ·have i1 : (0 : Int) ≤ (i : Int) := Int.natCast_nonneg _
   have i2 : (i : Int) < (k : Int) := by omega
   obtain ⟨pb, po, hao, hc⟩ := (Hrd.out.still (bstep (bstep HbW.out Hb1.out) hb.out)).at_'.resolve_left (by omega)
   have p0 := hc i hlt
   obtain ⟨x, hx⟩ : ∃ x, xs.getD i 0 = x := ⟨_, rfl⟩
   rw [hx] at p0
   have hdr : xs.drop i = x :: xs.drop (i + 1) := by
    have hil : i < xs.length := by rw [Hrd.out.len]; exact hlt
    rw [List.drop_eq_getElem_cons hil, <- hx]
    simp [List.getD, hil]
   have hok2 := hok.out
   rw [hdr] at hok2
   simp only [okP] at hok2
   have hce := hRr.n1
   have p1 : wr.cell? ⟨R.b, 0, none⟩ = some (.int .i64 (R.n : Int)) := hRr.cc 0 rfl
   have p2 : wr.cell? ⟨R.b, 1, none⟩ = some (.int .i64 (R.self : Int)) := hRr.cc 1 rfl
   rw [hao]
   have Hao : Hid (ao = some ⟨pb, po, none⟩) := hao
   have Hok2 : Hid ((inR (last + 1) ((R.n : Int) - 1) x && !(x == (R.self : Int)) && okP R.n R.self (x + 1) (xs.drop (i + 1))) = false) := hok2
   have HBr : Hid (Below w.heap.size w wr) := (show Below _ _ _ from bstep (bstep HbW.out Hb1.out) hb.out)
   clear hc hx hdr hok2 hok hRr hao
   by_cases c1 : x ≤ last
   ·go_wp2
    refine wp_region_held_drew (S := (fun w' => w'.cell? ⟨pb, po + i, none⟩ = some (.int .i64 x) /\ w'.cell? ⟨R.b, 0, none⟩ = some (.int .i64 (R.n : Int)) /\ w'.cell? ⟨R.b, 1, none⟩ = some (.int .i64 (R.self : Int)))) (by kernel_rfl) ⟨(dW0 p0), (dW0 p1), (dW0 p2)⟩ (fun hH => ?_)
    simp only [Act.put, lA, lC, lN, zA]
    refine wG 0 (.slice (some ⟨pb, po, none⟩) k c) rfl hH ?_
    simp only [aP, gA, gZ, gC, sA, sZ, sC]
    refine wG 1 (.int .i64 (i : Int)) rfl hH ?_
    simp only [aP, gA, gZ, gC, sA, sZ, sC]
    refine wG 2 (.pointer (some ⟨pb, po + i, none⟩)) rfl hH ?_
    simp only [aP, gA, gZ, gC, sA, sZ, sC]
    refine wL 3 (.int .i64 x) rfl hH ?_
    simp only [aP, gA, gZ, gC, sA, sZ, sC]
    refine wG 4 (.int .i64 last) rfl hH ?_
    simp only [aP, gA, gZ, gC, sA, sZ, sC]
    refine wX 5 (.bool true) rfl (Or.inl ⟨by rfl, fun w' hS => by (go_simp <;> omega)⟩) hH ?_
    simp only [aP, gA, gZ, gC, sA, sZ, sC]
    refine wG 6 (.bool true) rfl hH ?_
    simp only [aP, gA, gZ, gC, sA, sZ, sC]
    refine wS 7 rfl hH ?_
    simp only [aP, gA, gZ, gC, sA, sZ, sC]
    refine wS 8 rfl hH ?_
    simp only [aP, gA, gZ, gC, sA, sZ, sC]
    refine wS 9 rfl hH ?_
    simp only [aP, gA, gZ, gC, sA, sZ, sC]
    refine wS 10 rfl hH ?_
    simp only [aP, gA, gZ, gC, sA, sZ, sC]
    refine wS 11 rfl hH ?_
    simp only [aP, gA, gZ, gC, sA, sZ, sC]
    refine wS 12 rfl hH ?_
    simp only [aP, gA, gZ, gC, sA, sZ, sC]
    refine wS 13 rfl hH ?_
    simp only [aP, gA, gZ, gC, sA, sZ, sC]
    refine wS 14 rfl hH ?_
    simp only [aP, gA, gZ, gC, sA, sZ, sC]
    refine wS 15 rfl hH ?_
    simp only [aP, gA, gZ, gC, sA, sZ, sC]
    refine wG 16 (.bool true) rfl hH ?_
    simp only [aP, gA, gZ, gC, sA, sZ, sC]
    refine wG 17 (.bool true) rfl hH ?_
    simp only [aP, gA, gZ, gC, sA, sZ, sC]
    refine wS 18 rfl hH ?_
    simp only [aP, gA, gZ, gC, sA, sZ, sC]
    refine wS 19 rfl hH ?_
    simp only [aP, gA, gZ, gC, sA, sZ, sC]
    refine wS 20 rfl hH ?_
    simp only [aP, gA, gZ, gC, sA, sZ, sC]
    refine wS 21 rfl hH ?_
    simp only [aP, gA, gZ, gC, sA, sZ, sC]
    refine wS 22 rfl hH ?_
    simp only [aP, gA, gZ, gC, sA, sZ, sC]
    refine wS 23 rfl hH ?_
    simp only [aP, gA, gZ, gC, sA, sZ, sC]
    refine wS 24 rfl hH ?_
    simp only [aP, gA, gZ, gC, sA, sZ, sC]
    refine wS 25 rfl hH ?_
    simp only [aP, gA, gZ, gC, sA, sZ, sC]
    refine wS 26 rfl hH ?_
    simp only [aP, gA, gZ, gC, sA, sZ, sC]
    refine wG 27 (.bool true) rfl hH ?_
    simp only [aP, gA, gZ, gC, sA, sZ, sC]
    refine wpAnyH_done (by kernel_rfl) ?_ _
    clear hH
    have HZ : Hid (Below w.heap.size w wr.drew) := HBr.out.drew
    go_wp2
    go_ret
    exact ⟨rfl, HZ.out⟩
   by_cases c2 : x ≥ (R.n : Int)
   ·go_wp2
    refine wp_region_held_drew (S := (fun w' => w'.cell? ⟨pb, po + i, none⟩ = some (.int .i64 x) /\ w'.cell? ⟨R.b, 0, none⟩ = some (.int .i64 (R.n : Int)) /\ w'.cell? ⟨R.b, 1, none⟩ = some (.int .i64 (R.self : Int)))) (by kernel_rfl) ⟨(dW0 p0), (dW0 p1), (dW0 p2)⟩ (fun hH => ?_)
    simp only [Act.put, lA, lC, lN, zA]
    refine wG 0 (.slice (some ⟨pb, po, none⟩) k c) rfl hH ?_
    simp only [aP, gA, gZ, gC, sA, sZ, sC]
    refine wG 1 (.int .i64 (i : Int)) rfl hH ?_
    simp only [aP, gA, gZ, gC, sA, sZ, sC]
    refine wG 2 (.pointer (some ⟨pb, po + i, none⟩)) rfl hH ?_
    simp only [aP, gA, gZ, gC, sA, sZ, sC]
    refine wL 3 (.int .i64 x) rfl hH ?_
    simp only [aP, gA, gZ, gC, sA, sZ, sC]
    refine wG 4 (.int .i64 last) rfl hH ?_
    simp only [aP, gA, gZ, gC, sA, sZ, sC]
    refine wX 5 (.bool false) rfl (Or.inl ⟨by rfl, fun w' hS => by (go_simp <;> omega)⟩) hH ?_
    simp only [aP, gA, gZ, gC, sA, sZ, sC]
    refine wG 6 (.bool false) rfl hH ?_
    simp only [aP, gA, gZ, gC, sA, sZ, sC]
    refine wK 7 (.slice (some ⟨pb, po, none⟩) k c) rfl hH ?_
    simp only [aP, gA, gZ, gC, sA, sZ, sC]
    refine wK 8 (.int .i64 (i : Int)) rfl hH ?_
    simp only [aP, gA, gZ, gC, sA, sZ, sC]
    refine wK 9 (.pointer (some ⟨pb, po + i, none⟩)) rfl hH ?_
    simp only [aP, gA, gZ, gC, sA, sZ, sC]
    refine wM 10 (.int .i64 x) rfl hH ?_
    simp only [aP, gA, gZ, gC, sA, sZ, sC]
    refine wK 11 (.pointer (some ⟨R.b, 0, none⟩)) rfl hH ?_
    simp only [aP, gA, gZ, gC, sA, sZ, sC]
    refine wK 12 (.pointer (some ⟨R.b, 0, none⟩)) rfl hH ?_
    simp only [aP, gA, gZ, gC, sA, sZ, sC]
    refine wK 13 (.pointer (some ⟨R.b, 0, none⟩)) rfl hH ?_
    simp only [aP, gA, gZ, gC, sA, sZ, sC]
    refine wM 14 (.int .i64 (R.n : Int)) rfl hH ?_
    simp only [aP, gA, gZ, gC, sA, sZ, sC]
    refine wX 15 (.bool true) rfl (Or.inl ⟨by kernel_rfl, fun w' hS => by (go_simp <;> omega)⟩) hH ?_
    simp only [aP, gA, gZ, gC, sA, sZ, sC]
    refine wG 16 (.bool true) rfl hH ?_
    simp only [aP, gA, gZ, gC, sA, sZ, sC]
    refine wG 17 (.bool true) rfl hH ?_
    simp only [aP, gA, gZ, gC, sA, sZ, sC]
    refine wS 18 rfl hH ?_
    simp only [aP, gA, gZ, gC, sA, sZ, sC]
    refine wS 19 rfl hH ?_
    simp only [aP, gA, gZ, gC, sA, sZ, sC]
    refine wS 20 rfl hH ?_
    simp only [aP, gA, gZ, gC, sA, sZ, sC]
    refine wS 21 rfl hH ?_
    simp only [aP, gA, gZ, gC, sA, sZ, sC]
    refine wS 22 rfl hH ?_
    simp only [aP, gA, gZ, gC, sA, sZ, sC]
    refine wS 23 rfl hH ?_
    simp only [aP, gA, gZ, gC, sA, sZ, sC]
    refine wS 24 rfl hH ?_
    simp only [aP, gA, gZ, gC, sA, sZ, sC]
    refine wS 25 rfl hH ?_
    simp only [aP, gA, gZ, gC, sA, sZ, sC]
    refine wS 26 rfl hH ?_
    simp only [aP, gA, gZ, gC, sA, sZ, sC]
    refine wG 27 (.bool true) rfl hH ?_
    simp only [aP, gA, gZ, gC, sA, sZ, sC]
    refine wpAnyH_done (by kernel_rfl) ?_ _
    clear hH
    have HZ : Hid (Below w.heap.size w wr.drew) := HBr.out.drew
    go_wp2
    go_ret
    exact ⟨rfl, HZ.out⟩
   by_cases c3 : x = (R.self : Int)
   ·go_wp2
    refine wp_region_held_drew (S := (fun w' => w'.cell? ⟨pb, po + i, none⟩ = some (.int .i64 x) /\ w'.cell? ⟨R.b, 0, none⟩ = some (.int .i64 (R.n : Int)) /\ w'.cell? ⟨R.b, 1, none⟩ = some (.int .i64 (R.self : Int)))) (by kernel_rfl) ⟨(dW0 p0), (dW0 p1), (dW0 p2)⟩ (fun hH => ?_)
    simp only [Act.put, lA, lC, lN, zA]
    refine wG 0 (.slice (some ⟨pb, po, none⟩) k c) rfl hH ?_
    simp only [aP, gA, gZ, gC, sA, sZ, sC]
    refine wG 1 (.int .i64 (i : Int)) rfl hH ?_
    simp only [aP, gA, gZ, gC, sA, sZ, sC]
    refine wG 2 (.pointer (some ⟨pb, po + i, none⟩)) rfl hH ?_
    simp only [aP, gA, gZ, gC, sA, sZ, sC]
    refine wL 3 (.int .i64 x) rfl hH ?_
    simp only [aP, gA, gZ, gC, sA, sZ, sC]
    refine wG 4 (.int .i64 last) rfl hH ?_
    simp only [aP, gA, gZ, gC, sA, sZ, sC]
    refine wX 5 (.bool false) rfl (Or.inl ⟨by rfl, fun w' hS => by (go_simp <;> omega)⟩) hH ?_
    simp only [aP, gA, gZ, gC, sA, sZ, sC]
    refine wG 6 (.bool false) rfl hH ?_
    simp only [aP, gA, gZ, gC, sA, sZ, sC]
    refine wK 7 (.slice (some ⟨pb, po, none⟩) k c) rfl hH ?_
    simp only [aP, gA, gZ, gC, sA, sZ, sC]
    refine wK 8 (.int .i64 (i : Int)) rfl hH ?_
    simp only [aP, gA, gZ, gC, sA, sZ, sC]
    refine wK 9 (.pointer (some ⟨pb, po + i, none⟩)) rfl hH ?_
    simp only [aP, gA, gZ, gC, sA, sZ, sC]
    refine wM 10 (.int .i64 x) rfl hH ?_
    simp only [aP, gA, gZ, gC, sA, sZ, sC]
    refine wK 11 (.pointer (some ⟨R.b, 0, none⟩)) rfl hH ?_
    simp only [aP, gA, gZ, gC, sA, sZ, sC]
    refine wK 12 (.pointer (some ⟨R.b, 0, none⟩)) rfl hH ?_
    simp only [aP, gA, gZ, gC, sA, sZ, sC]
    refine wK 13 (.pointer (some ⟨R.b, 0, none⟩)) rfl hH ?_
    simp only [aP, gA, gZ, gC, sA, sZ, sC]
    refine wM 14 (.int .i64 (R.n : Int)) rfl hH ?_
    simp only [aP, gA, gZ, gC, sA, sZ, sC]
    refine wX 15 (.bool false) rfl (Or.inl ⟨by kernel_rfl, fun w' hS => by (go_simp <;> omega)⟩) hH ?_
    simp only [aP, gA, gZ, gC, sA, sZ, sC]
    refine wG 16 (.bool false) rfl hH ?_
    simp only [aP, gA, gZ, gC, sA, sZ, sC]
    refine wG 17 (.bool false) rfl hH ?_
    simp only [aP, gA, gZ, gC, sA, sZ, sC]
    refine wK 18 (.slice (some ⟨pb, po, none⟩) k c) rfl hH ?_
    simp only [aP, gA, gZ, gC, sA, sZ, sC]
    refine wK 19 (.int .i64 (i : Int)) rfl hH ?_
    simp only [aP, gA, gZ, gC, sA, sZ, sC]
    refine wK 20 (.pointer (some ⟨pb, po + i, none⟩)) rfl hH ?_
    simp only [aP, gA, gZ, gC, sA, sZ, sC]
    refine wM 21 (.int .i64 x) rfl hH ?_
    simp only [aP, gA, gZ, gC, sA, sZ, sC]
    refine wK 22 (.pointer (some ⟨R.b, 0, none⟩)) rfl hH ?_
    simp only [aP, gA, gZ, gC, sA, sZ, sC]
    refine wK 23 (.pointer (some ⟨R.b, 0, none⟩)) rfl hH ?_
    simp only [aP, gA, gZ, gC, sA, sZ, sC]
    refine wK 24 (.pointer (some ⟨R.b, 1, none⟩)) rfl hH ?_
    simp only [aP, gA, gZ, gC, sA, sZ, sC]
    refine wM 25 (.int .i64 (R.self : Int)) rfl hH ?_
    simp only [aP, gA, gZ, gC, sA, sZ, sC]
    refine wX 26 (.bool true) rfl (Or.inl ⟨by kernel_rfl, fun w' hS => by (go_simp <;> omega)⟩) hH ?_
    simp only [aP, gA, gZ, gC, sA, sZ, sC]
    refine wG 27 (.bool true) rfl hH ?_
    simp only [aP, gA, gZ, gC, sA, sZ, sC]
    refine wpAnyH_done (by kernel_rfl) ?_ _
    clear hH
    have HZ : Hid (Below w.heap.size w wr.drew) := HBr.out.drew
    go_wp2
    go_ret
    exact ⟨rfl, HZ.out⟩
   have HN : Hid (okP R.n R.self (x + 1) (xs.drop (i + 1)) = false) := (show _ = _ from by
    have h5 := Hok2.out
    rw [inR_t (by omega) (by omega), show (x == (R.self : Int)) = false from by rw [beq_eq_false_iff_ne]; exact c3] at h5
    simpa using h5)
   have p0' := bA (dB wr) p0
   have Hbd : Hid (Below w1.heap.size w1 wr.drew) := (show Below _ _ _ from bstep hb.out (dB wr))
   go_wp2
   refine wp_region_held_drew (S := (fun w' => w'.cell? ⟨pb, po + i, none⟩ = some (.int .i64 x) /\ w'.cell? ⟨R.b, 0, none⟩ = some (.int .i64 (R.n : Int)) /\ w'.cell? ⟨R.b, 1, none⟩ = some (.int .i64 (R.self : Int)))) (by kernel_rfl) ⟨(dW0 p0), (dW0 p1), (dW0 p2)⟩ (fun hH => ?_)
   simp only [Act.put, lA, lC, lN, zA]
   refine wG 0 (.slice (some ⟨pb, po, none⟩) k c) rfl hH ?_
   simp only [aP, gA, gZ, gC, sA, sZ, sC]
   refine wG 1 (.int .i64 (i : Int)) rfl hH ?_
   simp only [aP, gA, gZ, gC, sA, sZ, sC]
   refine wG 2 (.pointer (some ⟨pb, po + i, none⟩)) rfl hH ?_
   simp only [aP, gA, gZ, gC, sA, sZ, sC]
   refine wL 3 (.int .i64 x) rfl hH ?_
   simp only [aP, gA, gZ, gC, sA, sZ, sC]
   refine wG 4 (.int .i64 last) rfl hH ?_
   simp only [aP, gA, gZ, gC, sA, sZ, sC]
   refine wX 5 (.bool false) rfl (Or.inl ⟨by rfl, fun w' hS => by (go_simp <;> omega)⟩) hH ?_
   simp only [aP, gA, gZ, gC, sA, sZ, sC]
   refine wG 6 (.bool false) rfl hH ?_
   simp only [aP, gA, gZ, gC, sA, sZ, sC]
   refine wK 7 (.slice (some ⟨pb, po, none⟩) k c) rfl hH ?_
   simp only [aP, gA, gZ, gC, sA, sZ, sC]
   refine wK 8 (.int .i64 (i : Int)) rfl hH ?_
   simp only [aP, gA, gZ, gC, sA, sZ, sC]
   refine wK 9 (.pointer (some ⟨pb, po + i, none⟩)) rfl hH ?_
   simp only [aP, gA, gZ, gC, sA, sZ, sC]
   refine wM 10 (.int .i64 x) rfl hH ?_
   simp only [aP, gA, gZ, gC, sA, sZ, sC]
   refine wK 11 (.pointer (some ⟨R.b, 0, none⟩)) rfl hH ?_
   simp only [aP, gA, gZ, gC, sA, sZ, sC]
   refine wK 12 (.pointer (some ⟨R.b, 0, none⟩)) rfl hH ?_
   simp only [aP, gA, gZ, gC, sA, sZ, sC]
   refine wK 13 (.pointer (some ⟨R.b, 0, none⟩)) rfl hH ?_
   simp only [aP, gA, gZ, gC, sA, sZ, sC]
   refine wM 14 (.int .i64 (R.n : Int)) rfl hH ?_
   simp only [aP, gA, gZ, gC, sA, sZ, sC]
   refine wX 15 (.bool false) rfl (Or.inl ⟨by kernel_rfl, fun w' hS => by (go_simp <;> omega)⟩) hH ?_
   simp only [aP, gA, gZ, gC, sA, sZ, sC]
   refine wG 16 (.bool false) rfl hH ?_
   simp only [aP, gA, gZ, gC, sA, sZ, sC]
   refine wG 17 (.bool false) rfl hH ?_
   simp only [aP, gA, gZ, gC, sA, sZ, sC]
   refine wK 18 (.slice (some ⟨pb, po, none⟩) k c) rfl hH ?_
   simp only [aP, gA, gZ, gC, sA, sZ, sC]
   refine wK 19 (.int .i64 (i : Int)) rfl hH ?_
   simp only [aP, gA, gZ, gC, sA, sZ, sC]
   refine wK 20 (.pointer (some ⟨pb, po + i, none⟩)) rfl hH ?_
   simp only [aP, gA, gZ, gC, sA, sZ, sC]
   refine wM 21 (.int .i64 x) rfl hH ?_
   simp only [aP, gA, gZ, gC, sA, sZ, sC]
   refine wK 22 (.pointer (some ⟨R.b, 0, none⟩)) rfl hH ?_
   simp only [aP, gA, gZ, gC, sA, sZ, sC]
   refine wK 23 (.pointer (some ⟨R.b, 0, none⟩)) rfl hH ?_
   simp only [aP, gA, gZ, gC, sA, sZ, sC]
   refine wK 24 (.pointer (some ⟨R.b, 1, none⟩)) rfl hH ?_
   simp only [aP, gA, gZ, gC, sA, sZ, sC]
   refine wM 25 (.int .i64 (R.self : Int)) rfl hH ?_
   simp only [aP, gA, gZ, gC, sA, sZ, sC]
   refine wX 26 (.bool false) rfl (Or.inl ⟨by kernel_rfl, fun w' hS => by (go_simp <;> omega)⟩) hH ?_
   simp only [aP, gA, gZ, gC, sA, sZ, sC]
   refine wG 27 (.bool false) rfl hH ?_
   simp only [aP, gA, gZ, gC, sA, sZ, sC]
   refine wpAnyH_done (by kernel_rfl) ?_ _
   clear hH
   generalize wr.drew = wd at *
   clear hb
   go_wp2
   exact ⟨⟨i + 1, x, by omega, rfl, by go_num, by omega, by omega, HN, Hbd⟩, by simp [intOf]; omega⟩
  ·exfalso
   have h5 := hok.out
   rw [List.drop_eq_nil_of_le (by rw [Hrd.out.len]; omega)] at h5
   simp [okP] at h5
end
end Go.Proofs.Ythanifbimndhaaa.Ln
