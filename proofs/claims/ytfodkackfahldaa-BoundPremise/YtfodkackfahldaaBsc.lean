import Derived.Test.YtfodkackfahldaaBsb
namespace Go.Proofs.Ytfodkackfahldaa.Lo
open Go.RowKit
set_option linter.unusedVariables false
set_option linter.unusedSimpArgs false
section
variable {w w' W : World} {B : Nat}
theorem Sm.symm {e e' : Em} (h : Sm e e') : Sm e' e := ⟨h.k.symm, h.a.symm, h.b.symm, h.n.symm, h.bs.symm, h.c5.symm, h.c6.symm, h.c7.symm, h.c8.symm, h.s9.symm, h.s10.symm, h.s11.symm, h.xs.symm⟩
theorem Sm.trans {e e' e2 : Em} (h : Sm e e') (g : Sm e' e2) : Sm e e2 := ⟨g.k.trans h.k, g.a.trans h.a, g.b.trans h.b, g.n.trans h.n, g.bs.trans h.bs, g.c5.trans h.c5, g.c6.trans h.c6, g.c7.trans h.c7, g.c8.trans h.c8, g.s9.trans h.s9, g.s10.trans h.s10, g.s11.trans h.s11, g.xs.trans h.xs⟩
theorem Sms.symm {j : Nat} {es es' : List Em} (h : Sms j es es') (hl : es.length = j) : Sms j es' es := ⟨hl, fun i hi => (h.2 i hi).symm⟩
theorem OwI.cut {g n cc : Nat} {xs : List Int} (h : OwI w B (.slice (some ⟨g, 0, none⟩) (n + 64) cc) (pcL xs 64)) (hl : xs.length = n) : OwI w B (.slice (some ⟨g, 0, none⟩) n cc) xs := by
  obtain ⟨h1, h2⟩ := h
  rcases h2 with ⟨e, e0⟩ | ⟨g', cap, cur, e, hb, hh, hc, hm, hs, ht⟩
  · cases e
  · simp only [Value.slice.injEq, Option.some.injEq, Addr.mk.injEq, and_true] at e
    obtain ⟨rfl, e2, rfl⟩ := e
    refine ⟨by rw [Mb.ints_len]; omega, .inr ⟨g, cc, cur, by rw [hl], hb, hh, by omega, hm, hs, ?_⟩⟩
    have h3 : (cur.toList.take ((pcL xs 64).length * 1)).take (xs.length * 1) = (Mb.ints (pcL xs 64)).take (xs.length * 1) := by rw [ht]
    rw [List.take_take, pcL_len, show min (xs.length * 1) ((xs.length + 64) * 1) = xs.length * 1 by omega] at h3
    rw [h3]
    simp [pcL, Mb.ints, List.map_append, List.take_append]
theorem app_S {ops : Array Oper} {rest : List Oper} {o : Oper} {a : Act} {Q : Exit → Act → World → Prop} (hgd : o.guard = none) (s x : Operand)
    (ho : o.op = .call { callee := .builtin .append, args := #[s, x], argTypes := #[66, 66] }) {v : Value} {n : Nat} {xs : List Value} (hs : a.eval s = v) {w0 : World} (hown : w0.ownsRow B 22 1 v n xs) (sa : Option Addr) (sn sc : Nat) (hw : w = w0.alloc (.cells #[.slice sa sn sc] 22))
    (hx : a.eval x = .slice (some ⟨w0.heap.size, 0, none⟩) 1 1) (hn : (n + 1) * 24 ≤ 140737488355328) (hbase : B ≤ w0.heap.size)
    (h : ∀ v' w', Hid (w'.ownsRow B 22 1 v' (n + 1) (xs ++ [.slice sa sn sc])) → Hid (Mb.Kept w0 w' (fun k => v.ownBlock = some k)) → wpList Try.prog ops Q rest (a.put o.dst v') w') : wpList Try.prog ops Q (o :: rest) a w := by
  subst hw
  obtain ⟨i0, hi, hz0, hz1, hz2⟩ := info_parts (show (Try.prog.info? 22).map (fun i => (i.zero, i.size, i.bytes)) = some (some (.slice none 0 0), 1, 24) by kernel_rfl)
  have hb : Below w0.heap.size w0 (w0.alloc (.cells #[.slice sa sn sc] 22)) := bsp _ _ _
  refine app_g hgd s x 66 ho B 22 i0 (.slice none 0 0) 1 24 Try.underlying66 hi hz0 hz1 hz2 rfl (by omega) v n xs hs (Mb.own_still hown hb) (some ⟨w0.heap.size, 0, none⟩) 1 1 [.slice sa sn sc] hx (by simp) rfl ?_ (by intro u hu; obtain rfl := List.mem_singleton.1 hu; rfl) (by unfold maxLen; omega) hn (Nat.le_trans hbase hb.size) ?_
  · intro ad he j u hu
    cases he
    rw [Addr.add_mid, Nat.zero_add, blk_cell (heap_new w0 #[.slice sa sn sc] 22)]
    simpa using hu
  · intro v' w' h1 h2 _
    exact h v' w' h1 ((Mb.Kept.ofBelow hb (fun k => v.ownBlock = some k)).trans h2.out)
theorem fls_set (sa : Option Addr) (sn sc : Nat) : ∀ (l : List Em) (i : Nat), i < l.length → (fls l).set (i * 13 + 12) (.slice sa sn sc) = fls (l.set i { l.getD i em0 with sa := sa, sn := sn, sc := sc }) := by
  intro l
  induction l with
  | nil => intro i hi; simp at hi
  | cons e l ih =>
    intro i hi
    have e1 : ∀ (x : Em) (y : List Em), fls (x :: y) = x.cs ++ fls y := fun x y => by simp [fls]
    cases i with
    | zero =>
      rw [e1, Nat.zero_mul, Nat.zero_add, List.set_append_left _ _ (by rw [cs_len]; omega), List.set_cons_zero, e1]
      rfl
    | succ i =>
      rw [e1, List.set_append_right _ _ (by rw [cs_len]; omega), cs_len, show (i + 1) * 13 + 12 - 13 = i * 13 + 12 by omega, ih i (by simpa using hi), List.set_cons_succ, e1]
      rfl
theorem OwE.set {eb n c : Nat} {l : List Em} (h : OwE w B (.slice (some ⟨eb, 0, none⟩) n c) l) {i : Nat} (hi : i < n) (sa : Option Addr) (sn sc : Nat) : OwE (w.setCell ⟨eb, i * 13 + 12, none⟩ (.slice sa sn sc)) B (.slice (some ⟨eb, 0, none⟩) n c) (l.set i { l.getD i em0 with sa := sa, sn := sn, sc := sc }) := by
  have hl := h.row.1
  obtain ⟨h1, h2⟩ := h
  rcases h2 with ⟨e, e0⟩ | ⟨g', cap, cur, e, hb, hh, hc, hm, hs, ht⟩
  · cases e
  · simp only [Value.slice.injEq, Option.some.injEq, Addr.mk.injEq, and_true] at e
    obtain ⟨rfl, e2, rfl⟩ := e
    refine ⟨by rw [fls_len], .inr ⟨eb, c, cur.setIfInBounds (i * 13 + 12) (.slice sa sn sc), by simp [hl], hb, heap_setCell_same w eb _ cur _ _ hh, by simpa [hl] using hc, hm, by simpa using hs, ?_⟩⟩
    rw [← fls_set sa sn sc l i (by omega), ← ht]
    simp [List.take_set]
theorem Rws.set {l : List Em} (h : Rws w B l) {i : Nat} {e : Em} (h1 : OwI w B (.slice e.sa e.sn e.sc) e.xs) (h2 : OwB w B (.slice e.ba e.bn e.bc) e.bs ∧ Ln.By e.bs) : Rws w B (l.set i e) := by
  refine ⟨fun x hx => ?_, fun x hx => ?_⟩
  · rcases List.mem_or_eq_of_mem_set hx with hx | rfl
    · exact h.sd x hx
    · exact h1
  · rcases List.mem_or_eq_of_mem_set hx with hx | rfl
    · exact h.bd x hx
    · exact h2
theorem getD_set_same {l : List Em} {i : Nat} {e : Em} (h : i < l.length) : (l.set i e).getD i em0 = e := by
  rw [List.getD_eq_getElem?_getD, List.getElem?_set]
  simp [h]
theorem getD_set_ne {l : List Em} {i j : Nat} {e : Em} (h : j ≠ i) : (l.set i e).getD j em0 = l.getD j em0 := by
  rw [List.getD_eq_getElem?_getD, List.getElem?_set_ne (by omega), List.getD_eq_getElem?_getD]
structure PS (W wr : World) (tb : Nat) (no wi ba st ca ro fl : Int) (va : Option Addr) (vn vc : Nat) (vs : List Int) (ea : Option Addr) (n ec : Nat) (es l : List Em) : Prop where
  t : wr.heap[tb]? = some (.cells #[.int .i64 no, .int .i64 wi, .int .i64 ba, .int .i64 st, .int .i64 ca, .int .i64 ro, .int .i64 fl, .slice va vn vc, .slice ea n ec] 27 (0, 0))
  v : OwI wr W.heap.size (.slice va vn vc) vs
  o : OwE wr W.heap.size (.slice ea n ec) l
  s : Rws wr W.heap.size l
  m : Sms n es l
  h : ∀ i, i < n → (l.getD i em0).sn ≤ 140737488355328
  b : Below W.heap.size W wr
  z : W.heap.size ≤ tb
theorem PS.on {wr : World} {tb : Nat} {no wi ba st ca ro fl : Int} {va : Option Addr} {vn vc : Nat} {vs : List Int} {ea : Option Addr} {n ec : Nat} {es l : List Em} (h : PS W wr tb no wi ba st ca ro fl va vn vc vs ea n ec es l) (hb : Below wr.heap.size wr w') : PS W w' tb no wi ba st ca ro fl va vn vc vs ea n ec es l :=
  ⟨blk_on hb h.t, Mb.own_still h.v hb, Mb.own_still h.o hb, h.s.keep (Mb.Kept.ofBelow hb (fun _ => False)) (fun j hj => hj.elim), h.m, h.h, h.b.trans (hb.mono h.b.size), h.z⟩
theorem PS.evr {wr : World} {tb : Nat} {no wi ba st ca ro fl : Int} {va : Option Addr} {vn vc : Nat} {vs : List Int} {ea : Option Addr} {n ec : Nat} {es l : List Em} (h : PS W wr tb no wi ba st ca ro fl va vn vc vs ea n ec es l) : EvR wr ea n l := evr_of h.o h.s h.h
theorem PS.evb {wr : World} {tb : Nat} {no wi ba st ca ro fl : Int} {va : Option Addr} {vn vc : Nat} {vs : List Int} {ea : Option Addr} {n ec : Nat} {es l : List Em} (h : PS W wr tb no wi ba st ca ro fl va vn vc vs ea n ec es l) : EvB wr ea n l :=
  ⟨h.evr, fun i hi => ((h.s.bd _ (getD_mem (by rw [h.o.row.1]; exact hi))).1).rd (h.s.bd _ (getD_mem (by rw [h.o.row.1]; exact hi))).2⟩
theorem PS.keep {wr : World} {P : Nat → Prop} {tb : Nat} {no wi ba st ca ro fl : Int} {va : Option Addr} {vn vc : Nat} {vs : List Int} {ea : Option Addr} {n ec : Nat} {es l : List Em} (h : PS W wr tb no wi ba st ca ro fl va vn vc vs ea n ec es l) (k : Mb.Kept wr w' P) (hP : ∀ j, P j → ∃ C, wr.heap[j]? = some (.cells C 22 (0, 0))) (hW : ∀ j, P j → W.heap.size ≤ j) : PS W w' tb no wi ba st ca ro fl va vn vc vs ea n ec es l := by
  refine ⟨k.obj h.t (fun hp => ?_), k.owns h.v (fun g hg hp => ?_), k.owns h.o (fun g hg hp => ?_), h.s.keep k (fun j hj C t hC => ?_), h.m, h.h, h.b.trans (k.below h.b.size (fun j hj hp => by have := hW j hp; omega)), h.z⟩
  · obtain ⟨C, hC⟩ := hP _ hp
    have := h.t
    rw [hC] at this
    simp at this
  · obtain ⟨C, hC⟩ := hP _ hp
    exact absurd (ow_type h.v hg hC) (by decide)
  · obtain ⟨C, hC⟩ := hP _ hp
    exact absurd (ow_type h.o hg hC) (by decide)
  · obtain ⟨C', hC'⟩ := hP _ hj
    rw [hC] at hC'
    simp at hC'
    rw [hC'.2]
    exact ⟨by decide, by decide⟩
theorem PS.side {wr Y : World} {tb : Nat} {no wi ba st ca ro fl : Int} {va : Option Addr} {vn vc : Nat} {vs : List Int} {eb n ec : Nat} {es l : List Em} (h : PS W wr tb no wi ba st ca ro fl va vn vc vs (some ⟨eb, 0, none⟩) n ec es l) {i g cc : Nat} (hi : i < n) (hg : OwI wr W.heap.size (.slice (some ⟨g, 0, none⟩) (l.getD i em0).sn cc) (l.getD i em0).xs) (hY : wr.setCell ⟨eb, i * 13 + 12, none⟩ (.slice (some ⟨g, 0, none⟩) (l.getD i em0).sn cc) = Y) : PS W Y tb no wi ba st ca ro fl va vn vc vs (some ⟨eb, 0, none⟩) n ec es (l.set i { l.getD i em0 with sa := some ⟨g, 0, none⟩, sc := cc }) := by
  subst hY
  have kk : Mb.Kept wr (wr.setCell ⟨eb, i * 13 + 12, none⟩ (.slice (some ⟨g, 0, none⟩) (l.getD i em0).sn cc)) (fun q => q = eb) := Mb.kset wr eb _ _ rfl
  obtain ⟨C, hC⟩ := Ln.own_ty h.o (g := eb) rfl
  have hle : W.heap.size ≤ eb := (World.ownsRow.lt h.o eb rfl).1
  have hl := h.o.row.1
  have hmem := getD_mem (es := l) (i := i) (by omega)
  refine ⟨kk.obj h.t (fun e => ?_), ow_ne h.v hC (by decide) kk, h.o.set hi _ _ _, ?_, ⟨by simp [hl], fun j hj => ?_⟩, fun j hj => ?_, h.b.trans (kn kk hle h.b.size), h.z⟩
  · have e' : tb = eb := e
    subst e'
    have := h.t
    rw [hC] at this
    simp at this
  · exact (h.s.set (e := { l.getD i em0 with sa := some ⟨g, 0, none⟩, sc := cc }) hg (h.s.bd (l.getD i em0) hmem)).keep kk (fun q hq C' t hC' => by
      have e' : q = eb := hq
      subst e'
      rw [hC] at hC'
      simp at hC'
      rw [← hC'.2]
      exact ⟨by decide, by decide⟩)
  · by_cases e : j = i
    · subst e
      rw [getD_set_same (by omega)]
      have h1 := h.m.2 j hj
      exact ⟨h1.k, h1.a, h1.b, h1.n, h1.bs, h1.c5, h1.c6, h1.c7, h1.c8, h1.s9, h1.s10, h1.s11, h1.xs⟩
    · rw [getD_set_ne e]
      exact h.m.2 j hj
  · by_cases e : j = i
    · subst e
      rw [getD_set_same (by omega)]
      exact h.h j hj
    · rw [getD_set_ne e]
      exact h.h j hj
theorem PS.vote {wr Y : World} {tb : Nat} {no wi ba st ca ro fl : Int} {va va2 : Option Addr} {vn vc vc2 : Nat} {vs : List Int} {ea : Option Addr} {n ec : Nat} {es l : List Em} (h : PS W wr tb no wi ba st ca ro fl va vn vc vs ea n ec es l) (hg : OwI wr W.heap.size (.slice va2 vn vc2) vs) (hY : wr.setCell ⟨tb, 7, none⟩ (.slice va2 vn vc2) = Y) : PS W Y tb no wi ba st ca ro fl va2 vn vc2 vs ea n ec es l := by
  subst hY
  have kk : Mb.Kept wr (wr.setCell ⟨tb, 7, none⟩ (.slice va2 vn vc2)) (fun q => q = tb) := Mb.kset wr tb _ _ rfl
  refine ⟨Mb.blk_set h.t rfl, ow_ne hg h.t (by decide) kk, ow_ne h.o h.t (by decide) kk, h.s.keep kk (fun q hq C t hC => ?_), h.m, h.h, h.b.trans (kn kk h.z h.b.size), h.z⟩
  have e' : q = tb := hq
  subst e'
  rw [h.t] at hC
  simp at hC
  rw [← hC.2]
  exact ⟨by decide, by decide⟩
end
end Go.Proofs.Ytfodkackfahldaa.Lo
