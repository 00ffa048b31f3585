import Derived.Test.YtfodkackfahldaaBtj
import Derived.Test.YtfodkackfahldaaBsd
import Derived.Test.YtfodkackfahldaaBrg
namespace Go.Proofs.Ytfodkackfahldaa.Lo
open Go.RowKit
set_option linter.unusedVariables false
set_option linter.unusedSimpArgs false
section
variable {w w' W : World} {B : Nat}
theorem Sm.refl (e : Em) : Sm e e := ⟨rfl, rfl, rfl, rfl, rfl, rfl, rfl, rfl, rfl, rfl, rfl, rfl, rfl⟩
theorem fls_put (e : Em) : ∀ (l : List Em) (i : Nat), i < l.length → fls (l.set i e) = (fls l).take (i * 13) ++ e.cs ++ (fls l).drop (i * 13 + 13) := by
  intro l
  induction l with
  | nil => intro i hi; simp at hi
  | cons x l ih =>
    intro i hi
    have e1 : ∀ (x : Em) (y : List Em), fls (x :: y) = x.cs ++ fls y := fun x y => by simp [fls]
    cases i with
    | zero =>
      rw [List.set_cons_zero, e1, e1]
      simp [List.drop_append, cs_len]
    | succ i =>
      have t1 : List.take ((i + 1) * 13) x.cs = x.cs := List.take_of_length_le (by rw [cs_len]; omega)
      have t2 : List.drop ((i + 1) * 13 + 13) x.cs = [] := List.drop_eq_nil_of_le (by rw [cs_len]; omega)
      rw [List.set_cons_succ, e1, e1, ih i (by simpa using hi), List.take_append, List.drop_append, cs_len, t1, t2, show (i + 1) * 13 - 13 = i * 13 by omega, show (i + 1) * 13 + 13 - 13 = i * 13 + 13 by omega]
      simp only [List.append_assoc, List.nil_append]
theorem OwE.there {eb n c : Nat} {l : List Em} (h : OwE w B (.slice (some ⟨eb, 0, none⟩) n c) l) {i : Nat} (hi : i < n) : w.there eb (i * 13) 13 := by
  have hl := h.row.1
  obtain ⟨h1, h2⟩ := h
  rcases h2 with ⟨e, e0⟩ | ⟨g', cap, cur, e, hb, hh, hc, hm, hs, ht⟩
  · cases e
  · simp only [Value.slice.injEq, Option.some.injEq, Addr.mk.injEq, and_true] at e
    obtain ⟨rfl, e2, rfl⟩ := e
    intro j hj
    refine ⟨?_, frozen_of_row w eb _ _ _ hh⟩
    rw [blk_cell hh]
    have hlt : i * 13 + j < cur.size := by rw [hs]; have : i + 1 ≤ c := by omega
                                           have := Nat.mul_le_mul_right 13 this; omega
    simp [hlt]
theorem OwE.put {eb n c : Nat} {l : List Em} (h : OwE w B (.slice (some ⟨eb, 0, none⟩) n c) l) {i : Nat} (hi : i < n) (e : Em) : OwE (w.setCells eb (i * 13) e.cs) B (.slice (some ⟨eb, 0, none⟩) n c) (l.set i e) := by
  have hl := h.row.1
  obtain ⟨h1, h2⟩ := h
  rcases h2 with ⟨e, e0⟩ | ⟨g', cap, cur, e9, hb, hh, hc, hm, hs, ht⟩
  · cases e
  · simp only [Value.slice.injEq, Option.some.injEq, Addr.mk.injEq, and_true] at e9
    obtain ⟨rfl, e2, rfl⟩ := e9
    have hin : i * 13 + 13 ≤ l.length * 13 := by have := Nat.mul_le_mul_right 13 (show i + 1 ≤ l.length by omega); omega
    have hcap : l.length * 13 ≤ c * 13 := Nat.mul_le_mul_right 13 hc
    have hsl := Ln.sets_list (k := eb) (t := 36) e.cs (i * 13) w cur.toList (by simpa using hh) (by rw [cs_len]; simp; omega)
    rw [cs_len] at hsl
    refine ⟨by rw [fls_len], .inr ⟨eb, c, _, by simp [hl], hb, hsl, by simpa using hc, hm, by rw [List.size_toArray, List.length_append, List.length_append, List.length_take, List.length_drop, cs_len]; simp [hs]; omega, ?_⟩⟩
    have hA : cur.toList.length = c * 13 := by simp [hs]
    generalize cur.toList = A at *
    have hE : (A.take (i * 13) ++ e.cs).length = i * 13 + 13 := by rw [List.length_append, List.length_take, cs_len, hA]; omega
    rw [fls_put e l i (by omega), ← ht]
    simp only [List.length_set]
    rw [List.take_append, hE, List.take_of_length_le (by rw [hE]; exact hin), List.take_take, List.drop_take, show min (i * 13) (l.length * 13) = i * 13 by omega]
theorem OwI.set0 {sb n c : Nat} {xs : List Int} (h : OwI w B (.slice (some ⟨sb, 0, none⟩) n c) xs) (v : Int) (hn : 0 < n) : OwI (w.setCell ⟨sb, 0, none⟩ (.int .i64 v)) B (.slice (some ⟨sb, 0, none⟩) n c) (xs.set 0 v) := by
  have hl := h.len
  obtain ⟨h1, h2⟩ := h
  rcases h2 with ⟨e, e0⟩ | ⟨g', cap, cur, e, hb, hh, hc, hm, hs, ht⟩
  · cases e
  · simp only [Value.slice.injEq, Option.some.injEq, Addr.mk.injEq, and_true] at e
    obtain ⟨rfl, e2, rfl⟩ := e
    refine ⟨by simp [Mb.ints], .inr ⟨sb, c, cur.setIfInBounds 0 (.int .i64 v), by simp [hl], hb, heap_setCell_same w sb _ cur _ _ hh, by simpa using hc, hm, by simpa using hs, ?_⟩⟩
    have : Mb.ints (xs.set 0 v) = (Mb.ints xs).set 0 (.int .i64 v) := by simp [Mb.ints, List.map_set]
    rw [this, ← ht]
    simp [List.take_set]
end
end Go.Proofs.Ytfodkackfahldaa.Lo
namespace Go.Proofs.Ytfodkackfahldaa.Lo
open Go.RowKit
set_option linter.unusedVariables false
set_option linter.unusedSimpArgs false
section
variable {w w' W : World} {B : Nat}
theorem PS.refl {wr : World} {tb : Nat} {no wi ba st ca ro fl : Int} {va : Option Addr} {vn vc : Nat} {vs : List Int} {ea : Option Addr} {n ec : Nat} {es l : List Em} (h : PS W wr tb no wi ba st ca ro fl va vn vc vs ea n ec es l) : PS W wr tb no wi ba st ca ro fl va vn vc vs ea n ec l l := ⟨h.t, h.v, h.o, h.s, ⟨h.o.row.1, fun i hi => Sm.refl _⟩, h.h, h.b, h.z⟩
theorem PS.put {wr : World} {tb : Nat} {no wi ba st ca ro fl : Int} {va : Option Addr} {vn vc : Nat} {vs : List Int} {eb n ec : Nat} {es l : List Em} (h : PS W wr tb no wi ba st ca ro fl va vn vc vs (some ⟨eb, 0, none⟩) n ec es l) {i : Nat} (hi : i < n) {e : Em} (he1 : OwI wr W.heap.size (.slice e.sa e.sn e.sc) e.xs) (he2 : OwB wr W.heap.size (.slice e.ba e.bn e.bc) e.bs) (he3 : Ln.By e.bs) (he4 : e.sn ≤ 140737488355328) : PS W (wr.setCells eb (i * 13) e.cs) tb no wi ba st ca ro fl va vn vc vs (some ⟨eb, 0, none⟩) n ec (l.set i e) (l.set i e) := by
  have kk : Mb.Kept wr (wr.setCells eb (i * 13) e.cs) (fun q => q = eb) := Mb.ksets (P := fun q => q = eb) rfl _ _ _
  obtain ⟨C, hC⟩ := Ln.own_ty h.o (g := eb) rfl
  have hle : W.heap.size ≤ eb := (World.ownsRow.lt h.o eb rfl).1
  have hl := h.o.row.1
  refine ⟨kk.obj h.t (fun e' => ?_), ow_ne h.v hC (by decide) kk, h.o.put hi e, ?_, ⟨by simp [hl], fun j hj => Sm.refl _⟩, fun j hj => ?_, h.b.trans (kn kk hle h.b.size), h.z⟩
  · have e2 : tb = eb := e'
    subst e2
    have := h.t
    rw [hC] at this
    simp at this
  · exact (h.s.set (i := i) (e := e) he1 ⟨he2, he3⟩).keep kk (fun q hq C' t hC' => by
      have e' : q = eb := hq
      subst e'
      rw [hC] at hC'
      simp at hC'
      rw [← hC'.2]
      exact ⟨by decide, by decide⟩)
  · by_cases e0 : j = i
    · subst e0
      rw [getD_set_same (by omega)]
      exact he4
    · rw [getD_set_ne e0]
      exact h.h j hj
structure Lw (Z : Nat) (va : Option Addr) (vn vc : Nat) (l : List Em) : Prop where
  v : ∀ k, (Value.slice va vn vc).ownBlock = some k → k < Z
  e : ∀ e ∈ l, ∀ k, (Value.slice e.sa e.sn e.sc).ownBlock = some k → k < Z
theorem PS.lw {wr : World} {tb : Nat} {no wi ba st ca ro fl : Int} {va : Option Addr} {vn vc : Nat} {vs : List Int} {ea : Option Addr} {n ec : Nat} {es l : List Em} (h : PS W wr tb no wi ba st ca ro fl va vn vc vs ea n ec es l) : Lw wr.heap.size va vn vc l :=
  ⟨fun k hk => (World.ownsRow.lt h.v k hk).2, fun e he k hk => (World.ownsRow.lt (h.s.sd e he) k hk).2⟩
theorem Lw.put {Z : Nat} {va : Option Addr} {vn vc : Nat} {l : List Em} (h : Lw Z va vn vc l) {i : Nat} {e : Em} (he : e.sa = none) : Lw Z va vn vc (l.set i e) := by
  refine ⟨h.v, fun x hx k hk => ?_⟩
  rcases List.mem_or_eq_of_mem_set hx with hx | rfl
  · exact h.e x hx k hk
  · rw [he] at hk
    simp [Value.ownBlock] at hk
theorem PS.seti {wr : World} {tb : Nat} {no wi ba st ca ro fl : Int} {va : Option Addr} {vn vc : Nat} {vs : List Int} {ea : Option Addr} {n ec : Nat} {es l : List Em} (h : PS W wr tb no wi ba st ca ro fl va vn vc vs ea n ec es l) {Z sb sn sc : Nat} {ss : List Int} (hz : W.heap.size ≤ Z) (ho : OwI wr Z (.slice (some ⟨sb, 0, none⟩) sn sc) ss) (hl : Lw Z va vn vc l) (v : Int) : PS W (wr.setCell ⟨sb, 0, none⟩ (.int .i64 v)) tb no wi ba st ca ro fl va vn vc vs ea n ec es l := by
  have kk : Mb.Kept wr (wr.setCell ⟨sb, 0, none⟩ (.int .i64 v)) (fun q => q = sb) := Mb.kset wr sb _ _ rfl
  obtain ⟨C, hC⟩ := Ln.own_ty ho (g := sb) rfl
  have hle : Z ≤ sb := (World.ownsRow.lt ho sb rfl).1
  refine ⟨kk.obj h.t (fun e' => ?_), kk.owns h.v (fun g hg e' => ?_), ow_ne h.o hC (by decide) kk, ⟨fun e he => kk.owns (h.s.sd e he) (fun g hg e' => ?_), fun e he => ⟨ow_ne (h.s.bd e he).1 hC (by decide) kk, (h.s.bd e he).2⟩⟩, h.m, h.h, h.b.trans (kn kk (by omega) h.b.size), h.z⟩
  · have e2 : tb = sb := e'
    subst e2
    have := h.t
    rw [hC] at this
    simp at this
  · have e2 : g = sb := e'
    have := hl.v g hg
    omega
  · have e2 : g = sb := e'
    have := hl.e e he g hg
    omega
theorem bEv1 (k : Int) : Try.prog.built 36 [(0, .int .i64 k)] = some (evS k none 0 0 []).cs.toArray := by kernel_rfl
end
end Go.Proofs.Ytfodkackfahldaa.Lo
namespace Go.Proofs.Ytfodkackfahldaa.Lo
open Go.RowKit
set_option linter.unusedVariables false
set_option linter.unusedSimpArgs false
set_option maxRecDepth 100000 in
set_option maxHeartbeats 8000000 in
theorem premlaw_any (no wi ba st ca ro fl : Int) (va : Option Addr) (vn vc : Nat) (vs : List Int) (r : Bool) (E : Int) (ea : Option Addr) (en ec : Nat) (es : List Em) (so : Option Addr) (sn sc : Nat) (ss : List Int) (w : World) (h : Cf w no wi ba st ca ro fl va vn vc vs r E) (hvn : vn * 8 ≤ 140737488351232) (hev : EvF w ea en es) (hss : Ri w so sn sc ss) (hsn : sn * 8 ≤ 140737488351232) : Calls Try.prog 6 #[.agg #[.int .i64 no, .int .i64 wi, .int .i64 ba, .int .i64 st, .int .i64 ca, .int .i64 ro, .int .i64 fl, .slice va vn vc, .slice ea en ec, .slice so sn sc]] w fun e w' => e = .returned (.bool true) ∧ Below w.heap.size w w' := by
  have HB : Hid (Below w.heap.size w (w.alloc (.cells #[.int .i64 no, .int .i64 wi, .int .i64 ba, .int .i64 st, .int .i64 ca, .int .i64 ro, .int .i64 fl, .slice va vn vc, .slice ea en ec, .slice so sn sc] 29))) := bsp _ _ _
  have hk := heap_new w #[.int .i64 no, .int .i64 wi, .int .i64 ba, .int .i64 st, .int .i64 ca, .int .i64 ro, .int .i64 fl, .slice va vn vc, .slice ea en ec, .slice so sn sc] 29
  have hWs : w.heap.size < (w.alloc (.cells #[.int .i64 no, .int .i64 wi, .int .i64 ba, .int .i64 st, .int .i64 ca, .int .i64 ro, .int .i64 fl, .slice va vn vc, .slice ea en ec, .slice so sn sc] 29)).heap.size := by simp
  generalize hW : w.alloc (.cells #[.int .i64 no, .int .i64 wi, .int .i64 ba, .int .i64 st, .int .i64 ca, .int .i64 ro, .int .i64 fl, .slice va vn vc, .slice ea en ec, .slice so sn sc] 29) = W at *
  have c0 : W.cell? ⟨w.heap.size, 0, none⟩ = some (.int .i64 no) := blk_cell hk 0
  have c1 : W.cell? ⟨w.heap.size, 1, none⟩ = some (.int .i64 wi) := blk_cell hk 1
  have c2 : W.cell? ⟨w.heap.size, 2, none⟩ = some (.int .i64 ba) := blk_cell hk 2
  have c3 : W.cell? ⟨w.heap.size, 3, none⟩ = some (.int .i64 st) := blk_cell hk 3
  have c4 : W.cell? ⟨w.heap.size, 4, none⟩ = some (.int .i64 ca) := blk_cell hk 4
  have c5 : W.cell? ⟨w.heap.size, 5, none⟩ = some (.int .i64 ro) := blk_cell hk 5
  have c6 : W.cell? ⟨w.heap.size, 6, none⟩ = some (.int .i64 fl) := blk_cell hk 6
  have c7 : W.cell? ⟨w.heap.size, 7, none⟩ = some (.slice va vn vc) := blk_cell hk 7
  have c8 : W.cell? ⟨w.heap.size, 8, none⟩ = some (.slice ea en ec) := blk_cell hk 8
  have c9 : W.cell? ⟨w.heap.size, 9, none⟩ = some (.slice so sn sc) := blk_cell hk 9
  have HCf : Hid (Cf W no wi ba st ca ro fl va vn vc vs r E) := h.below HB.out
  have HEv : Hid (EvF W ea en es) := hev.on HB.out
  have HSs : Hid (Ri W so sn sc ss) := hss.below HB.out
  have HCA : Hid (∀ D, Below W.heap.size W D → D.cell? ⟨w.heap.size, 0, none⟩ = some (.int .i64 no) ∧ D.cell? ⟨w.heap.size, 1, none⟩ = some (.int .i64 wi) ∧ D.cell? ⟨w.heap.size, 2, none⟩ = some (.int .i64 ba) ∧ D.cell? ⟨w.heap.size, 3, none⟩ = some (.int .i64 st) ∧ D.cell? ⟨w.heap.size, 4, none⟩ = some (.int .i64 ca) ∧ D.cell? ⟨w.heap.size, 5, none⟩ = some (.int .i64 ro) ∧ D.cell? ⟨w.heap.size, 6, none⟩ = some (.int .i64 fl) ∧ D.cell? ⟨w.heap.size, 7, none⟩ = some (.slice va vn vc) ∧ D.cell? ⟨w.heap.size, 8, none⟩ = some (.slice ea en ec) ∧ D.cell? ⟨w.heap.size, 9, none⟩ = some (.slice so sn sc)) := (show ∀ D, _ from fun D hb => ⟨belowB_at hb hWs c0, belowB_at hb hWs c1, belowB_at hb hWs c2, belowB_at hb hWs c3, belowB_at hb hWs c4, belowB_at hb hWs c5, belowB_at hb hWs c6, belowB_at hb hWs c7, belowB_at hb hWs c8, belowB_at hb hWs c9⟩)
  obtain ⟨⟨tq, dq, xq⟩, hq⟩ : ∃ q : Int × Int × Int, pm E en no ba fl es ss = q := ⟨_, rfl⟩
  have HLp : Hid (Calls Try.prog 19 #[.agg #[.int .i64 no, .int .i64 wi, .int .i64 ba, .int .i64 st, .int .i64 ca, .int .i64 ro, .int .i64 fl, .slice va vn vc, .slice ea en ec, .slice so sn sc]] W fun e w' => e = .returned (.tuple #[.int .i64 tq, .int .i64 dq, .int .i64 xq, .bool true]) ∧ Below W.heap.size W w') := (show Calls _ _ _ _ _  from by
    have h1 := lprem_any no wi ba st ca ro fl va vn vc vs r E ea en ec es so sn sc ss W HCf.out hvn HEv.out HSs.out hsn
    rw [hq] at h1
    exact h1)
  have HRp : Hid (∀ D, Below W.heap.size W D → Calls Try.prog 20 #[.agg #[.int .i64 no, .int .i64 wi, .int .i64 ba, .int .i64 st, .int .i64 ca, .int .i64 ro, .int .i64 fl, .slice va vn vc, .slice ea en ec], .slice so sn sc] D fun e w' => e = .returned (.tuple #[.int .i64 tq, .int .i64 dq, .int .i64 xq]) ∧ Below D.heap.size D w') := (show ∀ D, _ from fun D hb => by
    have h1 := rprem_any no wi ba st ca ro fl va vn vc vs r E ea en ec es so sn sc ss D (HCf.out.below hb) (HEv.out.on hb).r (HSs.out.below hb) (by omega)
    rw [hq] at h1
    exact h1)
  clear hk h hev hss hq
  go_enter Try.func6, Try.ntmps6
  go_wp2_with fail
  refine HLp.out.mono ?_
  rintro e w1 ⟨rfl, hb1⟩
  have HX1 : Hid (Below W.heap.size W w1) := hb1
  have HRc : Hid (Calls Try.prog 20 #[.agg #[.int .i64 no, .int .i64 wi, .int .i64 ba, .int .i64 st, .int .i64 ca, .int .i64 ro, .int .i64 fl, .slice va vn vc, .slice ea en ec], .slice so sn sc] w1 fun e w' => e = .returned (.tuple #[.int .i64 tq, .int .i64 dq, .int .i64 xq]) ∧ Below w1.heap.size w1 w') := HRp.out w1 hb1
  clear hb1 HLp HRp c0 c1 c2 c3 c4 c5 c6 c7 c8 c9
  obtain ⟨d0, d1, d2, d3, d4, d5, d6, d7, d8, d9⟩ := HCA.out w1 HX1.out
  go_wp2_with fail
  refine HRc.out.mono ?_
  rintro e w5 ⟨rfl, hb5⟩
  have HX5 : Hid (Below W.heap.size W w5) := HX1.out.trans (hb5.mono HX1.out.size)
  clear hb5 HRc HX1 d0 d1 d2 d3 d4 d5 d6 d7 d8 d9
  obtain ⟨d0, d1, d2, d3, d4, d5, d6, d7, d8, d9⟩ := HCA.out w5 HX5.out
  have HCp : Hid (Calls Try.prog 8 #[.agg #[.int .i64 no, .int .i64 wi, .int .i64 ba, .int .i64 st, .int .i64 ca, .int .i64 ro, .int .i64 fl, .slice va vn vc, .slice ea en ec]] w5 fun r w' => ∃ (va' : Option Addr) (vc' : Nat) (ea' : Option Addr) (ec' : Nat) (es' : List Em), r = .returned (.agg #[.int .i64 no, .int .i64 wi, .int .i64 ba, .int .i64 st, .int .i64 ca, .int .i64 ro, .int .i64 fl, .slice va' vn vc', .slice ea' en ec']) ∧ OwI w' w5.heap.size (.slice va' vn vc') vs ∧ OwE w' w5.heap.size (.slice ea' en ec') es' ∧ Rws w' w5.heap.size es' ∧ Sms en es es' ∧ Below w5.heap.size w5 w') := copied_any no wi ba st ca ro fl va vn vc vs ea en ec es w5 (HCf.out.rd.below HX5.out) hvn (HEv.out.on HX5.out)
  go_wp2_with fail
  refine HCp.out.mono ?_
  rintro e w6 ⟨va1, vc1, ea1, ec1, es1, rfl, o1, o2, o3, o4, hb2⟩
  clear d0 d1 d2 d3 d4 d5 d6 d7 d8 d9 HCp
  go_wp2_with (first | (refine wl_allocZ rfl 27 rfl zScr ?_) | fail)
  intro W2 k2 b2 s2
  go_wp2_with (first | (refine Ln.at_store 27 _ _ rfl ?_; refine wl_storeZ rfl 27 _ _ rfl (L := [.int .i64 no, .int .i64 wi, .int .i64 ba, .int .i64 st, .int .i64 ca, .int .i64 ro, .int .i64 fl, .slice va1 vn vc1, .slice ea1 en ec1]) rfl rfl k2 iScr rfl (one9 _ _ _ _ _ _ _ _ _ _ _ _ _ ) ?_) | fail)
  intro Z k3 kk3
  have hsw1 : W.heap.size ≤ w5.heap.size := HX5.out.size
  have hz2 : W.heap.size ≤ w6.heap.size := Nat.le_trans hsw1 hb2.size
  have hbb : Below W.heap.size W Z := ((HX5.out.trans (hb2.mono hsw1)).trans (b2.mono hz2)).trans (kn kk3 hz2 (by have := b2.size; omega))
  have hk2 : Below w6.heap.size w6 Z := b2.trans (kn kk3 (Nat.le_refl _) b2.size)
  have HP3 : Hid (PS W Z w6.heap.size no wi ba st ca ro fl va1 vn vc1 vs ea1 en ec1 es es1) := (show PS _ _ _ _ _ _ _ _ _ _ _ _ _ _ _ _ _ _ _  from
    ⟨k3, Mb.own_lower (Mb.own_still o1 hk2) hsw1, Mb.own_lower (Mb.own_still o2 hk2) hsw1, (o3.keep (Mb.Kept.ofBelow hk2 (fun _ => False)) (fun j hj => hj.elim)).lower hsw1, o4, fun i hi => (by
      have h1 := (o3.sd _ (getD_mem (by rw [o4.1]; exact hi))).len
      have h2 := (o4.2 i hi).xs
      have h3 := (HEv.out.r.sd i hi)
      rw [← h1, h2, h3.1.1]
      exact h3.2), hbb, hz2⟩)
  have htw : w.heap.size ≠ w6.heap.size := by omega
  clear hk2 hbb hz2 hsw1 o1 o2 o3 o4 hb2 k2 b2 s2 k3 kk3 HX5
  generalize w6.heap.size = tb at *
  have hWZ : W.heap.size ≤ Z.heap.size := HP3.out.b.size
  have HL : Hid (Lw Z.heap.size va1 vn vc1 es1) := HP3.out.lw
  have HSz : Hid (Ri Z so sn sc ss) := HSs.out.below HP3.out.b
  have b9 : Z.cell? ⟨w.heap.size, 9, none⟩ = some (.slice so sn sc) := (HCA.out Z HP3.out.b).2.2.2.2.2.2.2.2.2
  have hsl : ss.length = sn := HSs.out.1
  go_wp2_with (first | (at_builtin; refine app_I rfl _ _ rfl rfl (show OwI Z Z.heap.size (.slice none 0 0) [] from ow_nil _ _ _ _) rfl HSz.out (by simp only [List.length_nil]; omega) (Nat.le_refl _) ?_) | fail)
  intro v11 X1 o11 kk1 _
  have o11' : OwI X1 Z.heap.size v11 ss := o11.out
  obtain ⟨sa1, sc1, hv⟩ := ow_shape o11'
  rw [hsl] at hv
  subst hv
  have hbX := kb kk1.out
  have HO1 : Hid (OwI X1 Z.heap.size (.slice sa1 sn sc1) ss) := o11'
  have HP1 : Hid (PS W X1 tb no wi ba st ca ro fl va1 vn vc1 vs ea1 en ec1 es es1) := (show PS _ _ _ _ _ _ _ _ _ _ _ _ _ _ _ _ _ _ _  from HP3.out.on hbX)
  clear o11 o11' kk1 hbX HP3 b9 HSz
  have HPq : Hid (Calls Try.prog 9 #[.agg #[.int .i64 no, .int .i64 wi, .int .i64 ba, .int .i64 st, .int .i64 ca, .int .i64 ro, .int .i64 fl, .slice va1 vn vc1, .slice ea1 en ec1], .slice sa1 sn sc1] X1 fun e w' => ∃ a b c : Int, e = .returned (.tuple #[.int .i64 a, .int .i64 b, .int .i64 c]) ∧ Below X1.heap.size X1 w') := (show Calls _ _ _ _ _  from
    (premise_any no wi ba st ca ro fl va1 vn vc1 vs r E ea1 en ec1 es1 sa1 sn sc1 ss X1 ⟨HP1.out.v.ri, HCf.out.le, HCf.out.vt, HCf.out.er⟩ HP1.out.evr HO1.out.ri (by omega)).mono fun e w' h => ⟨_, _, _, h.1, h.2⟩)
  have t0 : X1.cell? ⟨tb, 0, none⟩ = some (.int .i64 no) := blk_cell HP1.out.t 0
  have t1 : X1.cell? ⟨tb, 1, none⟩ = some (.int .i64 wi) := blk_cell HP1.out.t 1
  have t2 : X1.cell? ⟨tb, 2, none⟩ = some (.int .i64 ba) := blk_cell HP1.out.t 2
  have t3 : X1.cell? ⟨tb, 3, none⟩ = some (.int .i64 st) := blk_cell HP1.out.t 3
  have t4 : X1.cell? ⟨tb, 4, none⟩ = some (.int .i64 ca) := blk_cell HP1.out.t 4
  have t5 : X1.cell? ⟨tb, 5, none⟩ = some (.int .i64 ro) := blk_cell HP1.out.t 5
  have t6 : X1.cell? ⟨tb, 6, none⟩ = some (.int .i64 fl) := blk_cell HP1.out.t 6
  have t7 : X1.cell? ⟨tb, 7, none⟩ = some (.slice va1 vn vc1) := blk_cell HP1.out.t 7
  have t8 : X1.cell? ⟨tb, 8, none⟩ = some (.slice ea1 en ec1) := blk_cell HP1.out.t 8
  go_wp2_with fail
  refine HPq.out.mono ?_
  rintro e X2 ⟨qa, qb, qc, rfl, hbq⟩
  have HP2 : Hid (PS W X2 tb no wi ba st ca ro fl va1 vn vc1 vs ea1 en ec1 es1 es1) := (show PS _ _ _ _ _ _ _ _ _ _ _ _ _ _ _ _ _ _ _  from (HP1.out.on hbq).refl)
  have HO : Hid (OwI X2 Z.heap.size (.slice sa1 sn sc1) ss) := (show OwI _ _ _ _  from Mb.own_still HO1.out hbq)
  clear hbq HP1 HO1 HPq t0 t1 t2 t3 t4 t5 t6 t7 t8
  have t8 : X2.cell? ⟨tb, 8, none⟩ = some (.slice ea1 en ec1) := blk_cell HP2.out.t 8
  by_cases he0 : en = 0
  · have g1 : ¬ (0 : Int) < (en : Int) := by omega
    have HP := HP2
    clear HP2 he0
    by_cases hs0 : sn = 0
    · have g2 : ¬ (0 : Int) < (sn : Int) := by omega
      clear hs0 HL
      obtain ⟨⟨ta, da, xa⟩, hqa⟩ : ∃ q : Int × Int × Int, pm E en no ba fl es1 ss = q := ⟨_, rfl⟩
      have HPa : Hid (Calls Try.prog 9 #[.agg #[.int .i64 no, .int .i64 wi, .int .i64 ba, .int .i64 st, .int .i64 ca, .int .i64 ro, .int .i64 fl, .slice va1 vn vc1, .slice ea1 en ec1], .slice sa1 sn sc1] X2 fun e w' => e = .returned (.tuple #[.int .i64 ta, .int .i64 da, .int .i64 xa]) ∧ Below X2.heap.size X2 w') := (show Calls _ _ _ _ _  from by
        have h1 := premise_any no wi ba st ca ro fl va1 vn vc1 vs r E ea1 en ec1 es1 sa1 sn sc1 ss X2 ⟨HP.out.v.ri, HCf.out.le, HCf.out.vt, HCf.out.er⟩ HP.out.evr HO.out.ri (by omega)
        rw [hqa] at h1
        exact h1)
      have HPb : Hid (∀ D, Below X2.heap.size X2 D → Calls Try.prog 20 #[.agg #[.int .i64 no, .int .i64 wi, .int .i64 ba, .int .i64 st, .int .i64 ca, .int .i64 ro, .int .i64 fl, .slice va1 vn vc1, .slice ea1 en ec1], .slice sa1 sn sc1] D fun e w' => e = .returned (.tuple #[.int .i64 ta, .int .i64 da, .int .i64 xa]) ∧ Below D.heap.size D w') := (show ∀ D, _ from fun D hb => by
        have h1 := rprem_any no wi ba st ca ro fl va1 vn vc1 vs r E ea1 en ec1 es1 sa1 sn sc1 ss D ⟨(HP.out.on hb).v.ri, HCf.out.le, HCf.out.vt, HCf.out.er⟩ (HP.out.on hb).evr (HO.out.ri.below hb) (by omega)
        rw [hqa] at h1
        exact h1)
      have t0 : X2.cell? ⟨tb, 0, none⟩ = some (.int .i64 no) := blk_cell HP.out.t 0
      have t1 : X2.cell? ⟨tb, 1, none⟩ = some (.int .i64 wi) := blk_cell HP.out.t 1
      have t2 : X2.cell? ⟨tb, 2, none⟩ = some (.int .i64 ba) := blk_cell HP.out.t 2
      have t3 : X2.cell? ⟨tb, 3, none⟩ = some (.int .i64 st) := blk_cell HP.out.t 3
      have t4 : X2.cell? ⟨tb, 4, none⟩ = some (.int .i64 ca) := blk_cell HP.out.t 4
      have t5 : X2.cell? ⟨tb, 5, none⟩ = some (.int .i64 ro) := blk_cell HP.out.t 5
      have t6 : X2.cell? ⟨tb, 6, none⟩ = some (.int .i64 fl) := blk_cell HP.out.t 6
      have t7 : X2.cell? ⟨tb, 7, none⟩ = some (.slice va1 vn vc1) := blk_cell HP.out.t 7
      have t8 : X2.cell? ⟨tb, 8, none⟩ = some (.slice ea1 en ec1) := blk_cell HP.out.t 8
      clear hqa HO
      go_wp2_with (first | fail)
      refine HPa.out.mono ?_
      rintro r8 y1 ⟨rfl, hy1⟩
      have HPy : Hid (PS W y1 tb no wi ba st ca ro fl va1 vn vc1 vs ea1 en ec1 es1 es1) := HP.out.on hy1
      have HPc : Hid (Calls Try.prog 20 #[.agg #[.int .i64 no, .int .i64 wi, .int .i64 ba, .int .i64 st, .int .i64 ca, .int .i64 ro, .int .i64 fl, .slice va1 vn vc1, .slice ea1 en ec1], .slice sa1 sn sc1] y1 fun e w' => e = .returned (.tuple #[.int .i64 ta, .int .i64 da, .int .i64 xa]) ∧ Below y1.heap.size y1 w') := HPb.out y1 hy1
      clear hy1 HPa HPb HP t0 t1 t2 t3 t4 t5 t6 t7 t8
      have t0 : y1.cell? ⟨tb, 0, none⟩ = some (.int .i64 no) := blk_cell HPy.out.t 0
      have t1 : y1.cell? ⟨tb, 1, none⟩ = some (.int .i64 wi) := blk_cell HPy.out.t 1
      have t2 : y1.cell? ⟨tb, 2, none⟩ = some (.int .i64 ba) := blk_cell HPy.out.t 2
      have t3 : y1.cell? ⟨tb, 3, none⟩ = some (.int .i64 st) := blk_cell HPy.out.t 3
      have t4 : y1.cell? ⟨tb, 4, none⟩ = some (.int .i64 ca) := blk_cell HPy.out.t 4
      have t5 : y1.cell? ⟨tb, 5, none⟩ = some (.int .i64 ro) := blk_cell HPy.out.t 5
      have t6 : y1.cell? ⟨tb, 6, none⟩ = some (.int .i64 fl) := blk_cell HPy.out.t 6
      have t7 : y1.cell? ⟨tb, 7, none⟩ = some (.slice va1 vn vc1) := blk_cell HPy.out.t 7
      have t8 : y1.cell? ⟨tb, 8, none⟩ = some (.slice ea1 en ec1) := blk_cell HPy.out.t 8
      go_wp2_with fail
      refine HPc.out.mono ?_
      rintro r9 y2 ⟨rfl, hy2⟩
      have HBz : Hid (Below w.heap.size w y2) := bst HB.out (HPy.out.b.trans (hy2.mono HPy.out.b.size))
      clear hy2 HPc HPy t0 t1 t2 t3 t4 t5 t6 t7 t8
      go_wp2_with fail
      go_ret
      exact ⟨by simp, HBz.out⟩
    · have g2 : (0 : Int) < (sn : Int) := by omega
      have hsa : ∃ sb, sa1 = some ⟨sb, 0, none⟩ := by
        rcases HO.out.2 with ⟨e, e0⟩ | ⟨g, cap, cur, e, _⟩
        · have := HO.out.len; omega
        · simp only [Value.slice.injEq] at e; exact ⟨g, e.1⟩
      obtain ⟨sb, hsb⟩ := hsa
      subst hsb
      have s0c : X2.cell? ⟨sb, 0, none⟩ = some (.int .i64 (ss.getD 0 0)) := by
        rcases HO.out.ri.2.2 with h0 | ⟨b', o', e', hc⟩
        · omega
        · cases e'
          exact hc 0 (by omega)
      have s0f : X2.frozen? ⟨sb, 0, none⟩ = false := (Ln.own_ty HO.out (g := sb) rfl).elim fun C hC => frozen_of_row X2 sb 0 C _ hC
      have HOn : Hid (∀ v : Int, OwI (X2.setCell ⟨sb, 0, none⟩ (.int .i64 v)) Z.heap.size (.slice (some ⟨sb, 0, none⟩) sn sc1) (ss.set 0 v)) := (show ∀ v : Int, _ from fun v => HO.out.set0 v (by omega))
      have HPn : Hid (∀ v : Int, PS W (X2.setCell ⟨sb, 0, none⟩ (.int .i64 v)) tb no wi ba st ca ro fl va1 vn vc1 vs ea1 en ec1 es1 es1) := (show ∀ v : Int, _ from fun v => HP.out.seti hWZ HO.out HL.out v)
      obtain ⟨s0, hs0'⟩ : ∃ x, ss.getD 0 0 = x := ⟨_, rfl⟩
      rw [hs0'] at s0c
      clear hs0 hs0' HP HO HL
      obtain ⟨v9, hv9⟩ : ∃ v, IntKind.i64.wrap (s0 - 1) = v := ⟨_, rfl⟩
      obtain ⟨Y, hY⟩ : ∃ Y, X2.setCell ⟨sb, 0, none⟩ (.int .i64 v9) = Y := ⟨_, rfl⟩
      have HO : Hid (OwI Y Z.heap.size (.slice (some ⟨sb, 0, none⟩) sn sc1) (ss.set 0 v9)) := (show OwI _ _ _ _ from hY ▸ HOn.out v9)
      have HP : Hid (PS W Y tb no wi ba st ca ro fl va1 vn vc1 vs ea1 en ec1 es1 es1) := (show PS _ _ _ _ _ _ _ _ _ _ _ _ _ _ _ _ _ _ _  from hY ▸ HPn.out v9)
      obtain ⟨s9, hs9⟩ : ∃ x, ss.set 0 v9 = x := ⟨_, rfl⟩
      rw [hs9] at HO
      clear hs9 HOn HPn
      go_wp2_with (first | (refine Ln.wl_at 76 rfl ?_) | fail)
      refine ⟨?_⟩
    
      clear hv9 hY s0c s0f
      obtain ⟨⟨ta, da, xa⟩, hqa⟩ : ∃ q : Int × Int × Int, pm E en no ba fl es1 s9 = q := ⟨_, rfl⟩
      have HPa : Hid (Calls Try.prog 9 #[.agg #[.int .i64 no, .int .i64 wi, .int .i64 ba, .int .i64 st, .int .i64 ca, .int .i64 ro, .int .i64 fl, .slice va1 vn vc1, .slice ea1 en ec1], .slice (some ⟨sb, 0, none⟩) sn sc1] Y fun e w' => e = .returned (.tuple #[.int .i64 ta, .int .i64 da, .int .i64 xa]) ∧ Below Y.heap.size Y w') := (show Calls _ _ _ _ _  from by
        have h1 := premise_any no wi ba st ca ro fl va1 vn vc1 vs r E ea1 en ec1 es1 (some ⟨sb, 0, none⟩) sn sc1 s9 Y ⟨HP.out.v.ri, HCf.out.le, HCf.out.vt, HCf.out.er⟩ HP.out.evr HO.out.ri (by omega)
        rw [hqa] at h1
        exact h1)
      have HPb : Hid (∀ D, Below Y.heap.size Y D → Calls Try.prog 20 #[.agg #[.int .i64 no, .int .i64 wi, .int .i64 ba, .int .i64 st, .int .i64 ca, .int .i64 ro, .int .i64 fl, .slice va1 vn vc1, .slice ea1 en ec1], .slice (some ⟨sb, 0, none⟩) sn sc1] D fun e w' => e = .returned (.tuple #[.int .i64 ta, .int .i64 da, .int .i64 xa]) ∧ Below D.heap.size D w') := (show ∀ D, _ from fun D hb => by
        have h1 := rprem_any no wi ba st ca ro fl va1 vn vc1 vs r E ea1 en ec1 es1 (some ⟨sb, 0, none⟩) sn sc1 s9 D ⟨(HP.out.on hb).v.ri, HCf.out.le, HCf.out.vt, HCf.out.er⟩ (HP.out.on hb).evr (HO.out.ri.below hb) (by omega)
        rw [hqa] at h1
        exact h1)
      have t0 : Y.cell? ⟨tb, 0, none⟩ = some (.int .i64 no) := blk_cell HP.out.t 0
      have t1 : Y.cell? ⟨tb, 1, none⟩ = some (.int .i64 wi) := blk_cell HP.out.t 1
      have t2 : Y.cell? ⟨tb, 2, none⟩ = some (.int .i64 ba) := blk_cell HP.out.t 2
      have t3 : Y.cell? ⟨tb, 3, none⟩ = some (.int .i64 st) := blk_cell HP.out.t 3
      have t4 : Y.cell? ⟨tb, 4, none⟩ = some (.int .i64 ca) := blk_cell HP.out.t 4
      have t5 : Y.cell? ⟨tb, 5, none⟩ = some (.int .i64 ro) := blk_cell HP.out.t 5
      have t6 : Y.cell? ⟨tb, 6, none⟩ = some (.int .i64 fl) := blk_cell HP.out.t 6
      have t7 : Y.cell? ⟨tb, 7, none⟩ = some (.slice va1 vn vc1) := blk_cell HP.out.t 7
      have t8 : Y.cell? ⟨tb, 8, none⟩ = some (.slice ea1 en ec1) := blk_cell HP.out.t 8
      clear hqa HO
      go_wp2_with (first | fail)
      refine HPa.out.mono ?_
      rintro r8 y1 ⟨rfl, hy1⟩
      have HPy : Hid (PS W y1 tb no wi ba st ca ro fl va1 vn vc1 vs ea1 en ec1 es1 es1) := HP.out.on hy1
      have HPc : Hid (Calls Try.prog 20 #[.agg #[.int .i64 no, .int .i64 wi, .int .i64 ba, .int .i64 st, .int .i64 ca, .int .i64 ro, .int .i64 fl, .slice va1 vn vc1, .slice ea1 en ec1], .slice (some ⟨sb, 0, none⟩) sn sc1] y1 fun e w' => e = .returned (.tuple #[.int .i64 ta, .int .i64 da, .int .i64 xa]) ∧ Below y1.heap.size y1 w') := HPb.out y1 hy1
      clear hy1 HPa HPb HP t0 t1 t2 t3 t4 t5 t6 t7 t8
      have t0 : y1.cell? ⟨tb, 0, none⟩ = some (.int .i64 no) := blk_cell HPy.out.t 0
      have t1 : y1.cell? ⟨tb, 1, none⟩ = some (.int .i64 wi) := blk_cell HPy.out.t 1
      have t2 : y1.cell? ⟨tb, 2, none⟩ = some (.int .i64 ba) := blk_cell HPy.out.t 2
      have t3 : y1.cell? ⟨tb, 3, none⟩ = some (.int .i64 st) := blk_cell HPy.out.t 3
      have t4 : y1.cell? ⟨tb, 4, none⟩ = some (.int .i64 ca) := blk_cell HPy.out.t 4
      have t5 : y1.cell? ⟨tb, 5, none⟩ = some (.int .i64 ro) := blk_cell HPy.out.t 5
      have t6 : y1.cell? ⟨tb, 6, none⟩ = some (.int .i64 fl) := blk_cell HPy.out.t 6
      have t7 : y1.cell? ⟨tb, 7, none⟩ = some (.slice va1 vn vc1) := blk_cell HPy.out.t 7
      have t8 : y1.cell? ⟨tb, 8, none⟩ = some (.slice ea1 en ec1) := blk_cell HPy.out.t 8
      go_wp2_with fail
      refine HPc.out.mono ?_
      rintro r9 y2 ⟨rfl, hy2⟩
      have HBz : Hid (Below w.heap.size w y2) := bst HB.out (HPy.out.b.trans (hy2.mono HPy.out.b.size))
      clear hy2 HPc HPy t0 t1 t2 t3 t4 t5 t6 t7 t8
      go_wp2_with fail
      go_ret
      exact ⟨by simp, HBz.out⟩
  · have g1 : (0 : Int) < (en : Int) := by omega
    have hea : ∃ eb, ea1 = some ⟨eb, 0, none⟩ := by
      rcases HP2.out.o.2 with ⟨e, e0⟩ | ⟨g, cap, cur, e, _⟩
      · have := HP2.out.o.row.1; omega
      · simp only [Value.slice.injEq] at e; exact ⟨g, e.1⟩
    obtain ⟨eb, hea⟩ := hea
    subst hea
    obtain ⟨m, hmv, hm⟩ : ∃ m : Nat, m < en ∧ (en : Int).tdiv 2 = (m : Int) := ⟨en / 2, by omega, by rw [Int.tdiv_eq_ediv_of_nonneg (by omega)]; omega⟩
    have m1 : (0 : Int) ≤ (m : Int) := Int.natCast_nonneg _
    have m2 : (m : Int) < (en : Int) := by omega
    have m3 : wrap64 (m : Int) = (m : Int) := by have := HEv.out.sz; unfold wrap64; omega
    have HTh : Hid (X2.there eb (m * 13) (evS 5 none 0 0 []).cs.length) := (show World.there _ _ _ _ from HP2.out.o.there hmv)
    obtain ⟨X, hX⟩ : ∃ X, X2.setCells eb (m * 13) (evS 5 none 0 0 []).cs = X := ⟨_, rfl⟩
    obtain ⟨l, hl⟩ : ∃ l, es1.set m (evS 5 none 0 0 []) = l := ⟨_, rfl⟩
    have HP : Hid (PS W X tb no wi ba st ca ro fl va1 vn vc1 vs (some ⟨eb, 0, none⟩) en ec1 l l) := (show PS _ _ _ _ _ _ _ _ _ _ _ _ _ _ _ _ _ _ _  from by rw [← hX, ← hl]; exact HP2.out.put hmv (ow_nil _ _ _ _) (ow_nil _ _ _ _) Ln.By.nil (show 0 ≤ 140737488355328 by omega))
    have HLn : Hid (Lw Z.heap.size va1 vn vc1 l) := (show Lw _ _ _ _ _  from by rw [← hl]; exact HL.out.put rfl)
    have HO' : Hid (OwI X Z.heap.size (.slice sa1 sn sc1) ss) := (show OwI _ _ _ _  from by
      rw [← hX]
      obtain ⟨C, hC⟩ := Ln.own_ty HP2.out.o (g := eb) rfl
      exact ow_ne HO.out hC (by decide) (Mb.ksets (P := fun q => q = eb) rfl _ _ _))
    clear HO HL hl HP2 he0
    have HO := HO'
    have HL := HLn
    clear HO' HLn
    by_cases hs0 : sn = 0
    · have g2 : ¬ (0 : Int) < (sn : Int) := by omega
      clear hs0 HL
      obtain ⟨⟨ta, da, xa⟩, hqa⟩ : ∃ q : Int × Int × Int, pm E en no ba fl l ss = q := ⟨_, rfl⟩
      have HPa : Hid (Calls Try.prog 9 #[.agg #[.int .i64 no, .int .i64 wi, .int .i64 ba, .int .i64 st, .int .i64 ca, .int .i64 ro, .int .i64 fl, .slice va1 vn vc1, .slice (some ⟨eb, 0, none⟩) en ec1], .slice sa1 sn sc1] X fun e w' => e = .returned (.tuple #[.int .i64 ta, .int .i64 da, .int .i64 xa]) ∧ Below X.heap.size X w') := (show Calls _ _ _ _ _  from by
        have h1 := premise_any no wi ba st ca ro fl va1 vn vc1 vs r E (some ⟨eb, 0, none⟩) en ec1 l sa1 sn sc1 ss X ⟨HP.out.v.ri, HCf.out.le, HCf.out.vt, HCf.out.er⟩ HP.out.evr HO.out.ri (by omega)
        rw [hqa] at h1
        exact h1)
      have HPb : Hid (∀ D, Below X.heap.size X D → Calls Try.prog 20 #[.agg #[.int .i64 no, .int .i64 wi, .int .i64 ba, .int .i64 st, .int .i64 ca, .int .i64 ro, .int .i64 fl, .slice va1 vn vc1, .slice (some ⟨eb, 0, none⟩) en ec1], .slice sa1 sn sc1] D fun e w' => e = .returned (.tuple #[.int .i64 ta, .int .i64 da, .int .i64 xa]) ∧ Below D.heap.size D w') := (show ∀ D, _ from fun D hb => by
        have h1 := rprem_any no wi ba st ca ro fl va1 vn vc1 vs r E (some ⟨eb, 0, none⟩) en ec1 l sa1 sn sc1 ss D ⟨(HP.out.on hb).v.ri, HCf.out.le, HCf.out.vt, HCf.out.er⟩ (HP.out.on hb).evr (HO.out.ri.below hb) (by omega)
        rw [hqa] at h1
        exact h1)
      have t0 : X.cell? ⟨tb, 0, none⟩ = some (.int .i64 no) := blk_cell HP.out.t 0
      have t1 : X.cell? ⟨tb, 1, none⟩ = some (.int .i64 wi) := blk_cell HP.out.t 1
      have t2 : X.cell? ⟨tb, 2, none⟩ = some (.int .i64 ba) := blk_cell HP.out.t 2
      have t3 : X.cell? ⟨tb, 3, none⟩ = some (.int .i64 st) := blk_cell HP.out.t 3
      have t4 : X.cell? ⟨tb, 4, none⟩ = some (.int .i64 ca) := blk_cell HP.out.t 4
      have t5 : X.cell? ⟨tb, 5, none⟩ = some (.int .i64 ro) := blk_cell HP.out.t 5
      have t6 : X.cell? ⟨tb, 6, none⟩ = some (.int .i64 fl) := blk_cell HP.out.t 6
      have t7 : X.cell? ⟨tb, 7, none⟩ = some (.slice va1 vn vc1) := blk_cell HP.out.t 7
      have t8 : X.cell? ⟨tb, 8, none⟩ = some (.slice (some ⟨eb, 0, none⟩) en ec1) := blk_cell HP.out.t 8
      clear hqa HO
      go_wp2_with (first | (refine wl_buildZ rfl 36 _ rfl (built_eq (by kernel_rfl) (bEv1 5)) ?_) | (refine Ln.at_store 36 _ _ rfl ?_; refine Ln.wl_storeL rfl 36 _ _ rfl (L := (evS 5 none 0 0 []).cs) rfl rfl HTh.out iEvt (cs_one _) ?_; rw [hX]; clear hX HTh) | fail)
      refine HPa.out.mono ?_
      rintro r8 y1 ⟨rfl, hy1⟩
      have HPy : Hid (PS W y1 tb no wi ba st ca ro fl va1 vn vc1 vs (some ⟨eb, 0, none⟩) en ec1 l l) := HP.out.on hy1
      have HPc : Hid (Calls Try.prog 20 #[.agg #[.int .i64 no, .int .i64 wi, .int .i64 ba, .int .i64 st, .int .i64 ca, .int .i64 ro, .int .i64 fl, .slice va1 vn vc1, .slice (some ⟨eb, 0, none⟩) en ec1], .slice sa1 sn sc1] y1 fun e w' => e = .returned (.tuple #[.int .i64 ta, .int .i64 da, .int .i64 xa]) ∧ Below y1.heap.size y1 w') := HPb.out y1 hy1
      clear hy1 HPa HPb HP t0 t1 t2 t3 t4 t5 t6 t7 t8
      have t0 : y1.cell? ⟨tb, 0, none⟩ = some (.int .i64 no) := blk_cell HPy.out.t 0
      have t1 : y1.cell? ⟨tb, 1, none⟩ = some (.int .i64 wi) := blk_cell HPy.out.t 1
      have t2 : y1.cell? ⟨tb, 2, none⟩ = some (.int .i64 ba) := blk_cell HPy.out.t 2
      have t3 : y1.cell? ⟨tb, 3, none⟩ = some (.int .i64 st) := blk_cell HPy.out.t 3
      have t4 : y1.cell? ⟨tb, 4, none⟩ = some (.int .i64 ca) := blk_cell HPy.out.t 4
      have t5 : y1.cell? ⟨tb, 5, none⟩ = some (.int .i64 ro) := blk_cell HPy.out.t 5
      have t6 : y1.cell? ⟨tb, 6, none⟩ = some (.int .i64 fl) := blk_cell HPy.out.t 6
      have t7 : y1.cell? ⟨tb, 7, none⟩ = some (.slice va1 vn vc1) := blk_cell HPy.out.t 7
      have t8 : y1.cell? ⟨tb, 8, none⟩ = some (.slice (some ⟨eb, 0, none⟩) en ec1) := blk_cell HPy.out.t 8
      go_wp2_with fail
      refine HPc.out.mono ?_
      rintro r9 y2 ⟨rfl, hy2⟩
      have HBz : Hid (Below w.heap.size w y2) := bst HB.out (HPy.out.b.trans (hy2.mono HPy.out.b.size))
      clear hy2 HPc HPy t0 t1 t2 t3 t4 t5 t6 t7 t8
      go_wp2_with fail
      go_ret
      exact ⟨by simp, HBz.out⟩
    · have g2 : (0 : Int) < (sn : Int) := by omega
      have hsa : ∃ sb, sa1 = some ⟨sb, 0, none⟩ := by
        rcases HO.out.2 with ⟨e, e0⟩ | ⟨g, cap, cur, e, _⟩
        · have := HO.out.len; omega
        · simp only [Value.slice.injEq] at e; exact ⟨g, e.1⟩
      obtain ⟨sb, hsb⟩ := hsa
      subst hsb
      have s0c : X.cell? ⟨sb, 0, none⟩ = some (.int .i64 (ss.getD 0 0)) := by
        rcases HO.out.ri.2.2 with h0 | ⟨b', o', e', hc⟩
        · omega
        · cases e'
          exact hc 0 (by omega)
      have s0f : X.frozen? ⟨sb, 0, none⟩ = false := (Ln.own_ty HO.out (g := sb) rfl).elim fun C hC => frozen_of_row X sb 0 C _ hC
      have HOn : Hid (∀ v : Int, OwI (X.setCell ⟨sb, 0, none⟩ (.int .i64 v)) Z.heap.size (.slice (some ⟨sb, 0, none⟩) sn sc1) (ss.set 0 v)) := (show ∀ v : Int, _ from fun v => HO.out.set0 v (by omega))
      have HPn : Hid (∀ v : Int, PS W (X.setCell ⟨sb, 0, none⟩ (.int .i64 v)) tb no wi ba st ca ro fl va1 vn vc1 vs (some ⟨eb, 0, none⟩) en ec1 l l) := (show ∀ v : Int, _ from fun v => HP.out.seti hWZ HO.out HL.out v)
      obtain ⟨s0, hs0'⟩ : ∃ x, ss.getD 0 0 = x := ⟨_, rfl⟩
      rw [hs0'] at s0c
      clear hs0 hs0' HP HO HL
      obtain ⟨v9, hv9⟩ : ∃ v, IntKind.i64.wrap (s0 - 1) = v := ⟨_, rfl⟩
      obtain ⟨Y, hY⟩ : ∃ Y, X.setCell ⟨sb, 0, none⟩ (.int .i64 v9) = Y := ⟨_, rfl⟩
      have HO : Hid (OwI Y Z.heap.size (.slice (some ⟨sb, 0, none⟩) sn sc1) (ss.set 0 v9)) := (show OwI _ _ _ _ from hY ▸ HOn.out v9)
      have HP : Hid (PS W Y tb no wi ba st ca ro fl va1 vn vc1 vs (some ⟨eb, 0, none⟩) en ec1 l l) := (show PS _ _ _ _ _ _ _ _ _ _ _ _ _ _ _ _ _ _ _  from hY ▸ HPn.out v9)
      obtain ⟨s9, hs9⟩ : ∃ x, ss.set 0 v9 = x := ⟨_, rfl⟩
      rw [hs9] at HO
      clear hs9 HOn HPn
      go_wp2_with (first | (refine Ln.wl_at 76 rfl ?_) | (refine wl_buildZ rfl 36 _ rfl (built_eq (by kernel_rfl) (bEv1 5)) ?_) | (refine Ln.at_store 36 _ _ rfl ?_; refine Ln.wl_storeL rfl 36 _ _ rfl (L := (evS 5 none 0 0 []).cs) rfl rfl HTh.out iEvt (cs_one _) ?_; rw [hX]; clear hX HTh) | fail)
      refine ⟨?_⟩
    
      clear hv9 hY s0c s0f
      obtain ⟨⟨ta, da, xa⟩, hqa⟩ : ∃ q : Int × Int × Int, pm E en no ba fl l s9 = q := ⟨_, rfl⟩
      have HPa : Hid (Calls Try.prog 9 #[.agg #[.int .i64 no, .int .i64 wi, .int .i64 ba, .int .i64 st, .int .i64 ca, .int .i64 ro, .int .i64 fl, .slice va1 vn vc1, .slice (some ⟨eb, 0, none⟩) en ec1], .slice (some ⟨sb, 0, none⟩) sn sc1] Y fun e w' => e = .returned (.tuple #[.int .i64 ta, .int .i64 da, .int .i64 xa]) ∧ Below Y.heap.size Y w') := (show Calls _ _ _ _ _  from by
        have h1 := premise_any no wi ba st ca ro fl va1 vn vc1 vs r E (some ⟨eb, 0, none⟩) en ec1 l (some ⟨sb, 0, none⟩) sn sc1 s9 Y ⟨HP.out.v.ri, HCf.out.le, HCf.out.vt, HCf.out.er⟩ HP.out.evr HO.out.ri (by omega)
        rw [hqa] at h1
        exact h1)
      have HPb : Hid (∀ D, Below Y.heap.size Y D → Calls Try.prog 20 #[.agg #[.int .i64 no, .int .i64 wi, .int .i64 ba, .int .i64 st, .int .i64 ca, .int .i64 ro, .int .i64 fl, .slice va1 vn vc1, .slice (some ⟨eb, 0, none⟩) en ec1], .slice (some ⟨sb, 0, none⟩) sn sc1] D fun e w' => e = .returned (.tuple #[.int .i64 ta, .int .i64 da, .int .i64 xa]) ∧ Below D.heap.size D w') := (show ∀ D, _ from fun D hb => by
        have h1 := rprem_any no wi ba st ca ro fl va1 vn vc1 vs r E (some ⟨eb, 0, none⟩) en ec1 l (some ⟨sb, 0, none⟩) sn sc1 s9 D ⟨(HP.out.on hb).v.ri, HCf.out.le, HCf.out.vt, HCf.out.er⟩ (HP.out.on hb).evr (HO.out.ri.below hb) (by omega)
        rw [hqa] at h1
        exact h1)
      have t0 : Y.cell? ⟨tb, 0, none⟩ = some (.int .i64 no) := blk_cell HP.out.t 0
      have t1 : Y.cell? ⟨tb, 1, none⟩ = some (.int .i64 wi) := blk_cell HP.out.t 1
      have t2 : Y.cell? ⟨tb, 2, none⟩ = some (.int .i64 ba) := blk_cell HP.out.t 2
      have t3 : Y.cell? ⟨tb, 3, none⟩ = some (.int .i64 st) := blk_cell HP.out.t 3
      have t4 : Y.cell? ⟨tb, 4, none⟩ = some (.int .i64 ca) := blk_cell HP.out.t 4
      have t5 : Y.cell? ⟨tb, 5, none⟩ = some (.int .i64 ro) := blk_cell HP.out.t 5
      have t6 : Y.cell? ⟨tb, 6, none⟩ = some (.int .i64 fl) := blk_cell HP.out.t 6
      have t7 : Y.cell? ⟨tb, 7, none⟩ = some (.slice va1 vn vc1) := blk_cell HP.out.t 7
      have t8 : Y.cell? ⟨tb, 8, none⟩ = some (.slice (some ⟨eb, 0, none⟩) en ec1) := blk_cell HP.out.t 8
      clear hqa HO
      go_wp2_with (first | fail)
      refine HPa.out.mono ?_
      rintro r8 y1 ⟨rfl, hy1⟩
      have HPy : Hid (PS W y1 tb no wi ba st ca ro fl va1 vn vc1 vs (some ⟨eb, 0, none⟩) en ec1 l l) := HP.out.on hy1
      have HPc : Hid (Calls Try.prog 20 #[.agg #[.int .i64 no, .int .i64 wi, .int .i64 ba, .int .i64 st, .int .i64 ca, .int .i64 ro, .int .i64 fl, .slice va1 vn vc1, .slice (some ⟨eb, 0, none⟩) en ec1], .slice (some ⟨sb, 0, none⟩) sn sc1] y1 fun e w' => e = .returned (.tuple #[.int .i64 ta, .int .i64 da, .int .i64 xa]) ∧ Below y1.heap.size y1 w') := HPb.out y1 hy1
      clear hy1 HPa HPb HP t0 t1 t2 t3 t4 t5 t6 t7 t8
      have t0 : y1.cell? ⟨tb, 0, none⟩ = some (.int .i64 no) := blk_cell HPy.out.t 0
      have t1 : y1.cell? ⟨tb, 1, none⟩ = some (.int .i64 wi) := blk_cell HPy.out.t 1
      have t2 : y1.cell? ⟨tb, 2, none⟩ = some (.int .i64 ba) := blk_cell HPy.out.t 2
      have t3 : y1.cell? ⟨tb, 3, none⟩ = some (.int .i64 st) := blk_cell HPy.out.t 3
      have t4 : y1.cell? ⟨tb, 4, none⟩ = some (.int .i64 ca) := blk_cell HPy.out.t 4
      have t5 : y1.cell? ⟨tb, 5, none⟩ = some (.int .i64 ro) := blk_cell HPy.out.t 5
      have t6 : y1.cell? ⟨tb, 6, none⟩ = some (.int .i64 fl) := blk_cell HPy.out.t 6
      have t7 : y1.cell? ⟨tb, 7, none⟩ = some (.slice va1 vn vc1) := blk_cell HPy.out.t 7
      have t8 : y1.cell? ⟨tb, 8, none⟩ = some (.slice (some ⟨eb, 0, none⟩) en ec1) := blk_cell HPy.out.t 8
      go_wp2_with fail
      refine HPc.out.mono ?_
      rintro r9 y2 ⟨rfl, hy2⟩
      have HBz : Hid (Below w.heap.size w y2) := bst HB.out (HPy.out.b.trans (hy2.mono HPy.out.b.size))
      clear hy2 HPc HPy t0 t1 t2 t3 t4 t5 t6 t7 t8
      go_wp2_with fail
      go_ret
      exact ⟨by simp, HBz.out⟩
end Go.Proofs.Ytfodkackfahldaa.Lo
