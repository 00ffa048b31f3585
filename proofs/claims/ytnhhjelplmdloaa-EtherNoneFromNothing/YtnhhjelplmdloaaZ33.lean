import Derived.Test.YtnhhjelplmdloaaZ32
namespace Go.Proofs.Ytnhhjelplmdloaa.Et
open Go.RowKit Go.Maps
set_option linter.unusedVariables false
set_option linter.unusedSimpArgs false
set_option maxRecDepth 100000
section
variable {E E1 E' : En} {w w' w1 w2 w3 : World} {B K m : Nat}
theorem step_copyA {ops : Array Oper} {o : Oper} {a : Act} {K : Act → World → Prop} {Q : Exit → Act → World → Prop} {E : Prop} (hgd : o.guard = none) (s x : Operand) (t e : TypeId)
    (ho : o.op = .call { callee := .builtin .append, args := #[s, x], argTypes := #[t, t] })
    (i : TypeInfo) (z : Value) (size bytes : Nat) (ht : Try.prog.underlying t = some (.slice e)) (hi : Try.prog.info? e = some i) (hz : i.zero = some z)
    (hsize : i.size = size) (hby : i.bytes = bytes) (hzs : z.cells.size = size) (hsz : 0 < size) {g : Nat}
    (hs : a.eval s = .slice (some ⟨g, 0, none⟩) 0 0) (hg : w.heap[g]? = some (.cells #[] e (0, 0))) (ao : Option Addr) (m c : Nat) (news : List Value) (hx : a.eval x = .slice ao m c) (hnone : ao = none → m = 0 ∧ c = 0) (hl : news.length = m * size) (hnews : ∀ ad, ao = some ad → ∀ j u, news[j]? = some u → w.cell? (ad.add j) = some u) (h1 : ∀ u ∈ news, u.oneCell' = true)
    (h63 : m ≤ maxLen) (hbytes : m * bytes ≤ 140737488355328)
    (h : ∀ a1 c1 w2, w2.ownsRow g e size (.slice a1 m c1) m news → Kept w w2 (fun k => k = g) → K (a.put o.dst (.slice a1 m c1)) w2) : if Region.wanted o (yielded ops a.tmps) = true then Oper.wp Try.prog o a w K Q else E := by
  have hwt : Region.wanted o (yielded ops a.tmps) = true := by simp [Region.wanted, hgd]
  rw [if_pos hwt]
  have hown : w.ownsRow g e size (.slice (some ⟨g, 0, none⟩) 0 0) 0 [] := ⟨by simp, .inr ⟨g, 0, #[], rfl, Nat.le_refl _, hg, Nat.le_refl _, by unfold maxLen; omega, by simp, by simp⟩⟩
  cases ao with
  | some ad =>
    obtain ⟨v', w', hr, h2, h3, h4, h5⟩ := run_append_own_at (P := Try.prog) w g t o.type e i z size bytes ht hi hz hsize hby hzs hsz (.slice (some ⟨g, 0, none⟩) 0 0) 0 [] hown ad m c news hl (hnews ad rfl) h1 (by omega) (by simpa using hbytes) (Nat.le_of_lt (Array.getElem?_eq_some_iff.1 hg).1)
    rw [Nat.zero_add, List.nil_append] at h2
    obtain ⟨a1, c1, rfl⟩ : ∃ a1 c1, v' = .slice a1 m c1 := by
      rcases h2.2 with ⟨e1, e2⟩ | ⟨g', cap, cur, hv, _⟩
      · exact ⟨none, 0, by rw [e1, e2]⟩
      · exact ⟨_, _, hv⟩
    unfold Oper.wp execOp
    simp only [ho, resolve, invoke, builtin, Sem.run_bind, Sem.run_pure, Result.andThen_ok, List.map_toArray, List.map_cons, List.map_nil, hs, hx, hr]
    refine h a1 c1 w' h2 ((Kept.ofGrown h3).mono fun k _ hk => ?_)
    simp [Value.ownBlock] at hk
    exact hk
  | none =>
    obtain ⟨rfl, rfl⟩ := hnone rfl
    obtain rfl : news = [] := List.eq_nil_of_length_eq_zero (by rw [hl]; omega)
    have hr := run_append_owned_none (P := Try.prog) (w := w) g t o.type e i size ht hi _ 0 [] hown
    unfold Oper.wp execOp
    simp only [ho, resolve, invoke, builtin, Sem.run_bind, Sem.run_pure, Result.andThen_ok, List.map_toArray, List.map_cons, List.map_nil, hs, hx, hr]
    exact h _ 0 w hown (Kept.refl _ _)
theorem step_appH {ops : Array Oper} {o : Oper} {a : Act} {K : Act → World → Prop} {Q : Exit → Act → World → Prop} {E : Prop} (hgd : o.guard = none) (s x : Operand) (t : TypeId)
    (ho : o.op = .call { callee := .builtin .append, args := #[s, x], argTypes := #[t, t] })
    (base : Nat) (e : TypeId) (i : TypeInfo) (z : Value) (size bytes : Nat) (ht : Try.prog.underlying t = some (.slice e)) (hi : Try.prog.info? e = some i) (hz : i.zero = some z)
    (hsize : i.size = size) (hby : i.bytes = bytes) (hzs : z.cells.size = size) (hsz : 0 < size)
    (v : Value) (n : Nat) (xs : List Value) (hs : a.eval s = v) (hown : w.ownsRow base e size v n xs) {nb : Nat} (news : List Value) (hx : a.eval x = .slice (some ⟨nb, 0, none⟩) 1 1) (hl : news.length = size) (hnb : w.heap[nb]? = some (.cells news.toArray e (0, 0))) (h1 : ∀ u ∈ news, u.oneCell' = true)
    (h63 : n + 1 ≤ maxLen) (hbytes : (n + 1) * bytes ≤ 140737488355328) (hbase : base ≤ w.heap.size)
    (h : ∀ v' w', w'.ownsRow base e size v' (n + 1) (xs ++ news) → Kept w w' (fun k => v.ownBlock = some k) → (v'.ownBlock = v.ownBlock ∨ v'.ownBlock = some w.heap.size) → K (a.put o.dst v') w') : if Region.wanted o (yielded ops a.tmps) = true then Oper.wp Try.prog o a w K Q else E := by
  have hwt : Region.wanted o (yielded ops a.tmps) = true := by simp [Region.wanted, hgd]
  rw [if_pos hwt]
  obtain ⟨v', w', hr, h2, h3, h4, h5⟩ := run_append_own_at (P := Try.prog) w base t o.type e i z size bytes ht hi hz hsize hby hzs hsz v n xs hown ⟨nb, 0, none⟩ 1 1 news (by rw [hl]; omega) (fun j u hu => by
    rw [Addr.add_lit, Nat.zero_add, blk_cell hnb]
    simpa using hu) h1 h63 hbytes hbase
  unfold Oper.wp execOp
  simp only [ho, resolve, invoke, builtin, Sem.run_bind, Sem.run_pure, Result.andThen_ok, List.map_toArray, List.map_cons, List.map_nil, hs, hx, hr]
  exact h v' w' h2 ((Kept.ofGrown h3).mono fun k _ hk => hk.symm) h5
theorem bel_new {Z : Array Value} {T : TypeId} (w : World) : Below w.heap.size w (w.alloc (.cells Z T)) ∧ (w.alloc (.cells Z T)).heap[w.heap.size]? = some (.cells Z T (0, 0)) := ⟨balloc (Below.refl _ _), heap_alloc_new _ _⟩
theorem Fam.thru {N : Nat} {v : Nat → Value} {m : Nat → Nat} {l : Nat → List Value} {Z w2 : World} {T k n B' bb i : Nat} {rv x : Value} {rl : List Value} {C : Array Value} (h : Fam B 5 1 Z N v m l) (hr : Z.ownsRow B' T k rv n rl) (hT : T ≠ 5) (hk : Kept Z w2 (fun j => rv.ownBlock = some j)) (hb : w2.heap[bb]? = some (.cells C 34 (0, 0))) : Fam B 5 1 (w2.setCell ⟨bb, i, none⟩ x) N v m l := by
  have h2 := h.keptT hr hk (fun e => hT e.symm)
  exact h2.kept (kset (P := fun j => j = bb) w2 bb i x rfl) (fun q hq g hg e => own_bb (h2.o q hq) hb (by decide) (by rw [hg, e]))
theorem oneV (x : Value) (h : x.oneCell' = true) : ∀ u ∈ ([x] : List Value), u.oneCell' = true := by
  intro u hu
  simp only [List.mem_cons, List.not_mem_nil, or_false] at hu
  rw [hu]
  exact h
theorem byl_len (bs : List Int) : (byl bs).length = bs.length := by simp [byl]
theorem byl_one (bs : List Int) : ∀ u ∈ byl bs, u.oneCell' = true := bytes_one bs
theorem blk_ne4 {bb j : Nat} {sv dv bv cv : Value} {ns nd nb nc : Nat} {ls ld lb lc : List Value} (h : B4 w B bb sv dv bv cv ns nd nb nc ls ld lb lc) {t s n B' : Nat} {v : Value} {l : List Value} (ho : w.ownsRow B' t s v n l) (ht : t = 5) (hj : v.ownBlock = some j) : ¬ Bo bb sv dv bv cv j := by
  subst ht
  intro hb
  rcases hb with rfl | hb | hb | hb | hb
  · exact own_bb ho h.blk (by decide) hj
  · exact own_ty ho h.s (by decide) hj hb
  · exact own_ty ho h.d (by decide) hj hb
  · exact own_ty ho h.b (by decide) hj hb
  · exact own_ty ho h.c (by decide) hj hb
set_option maxHeartbeats 4000000 in
theorem put_any {bb n c : Nat} {sv dv bv cv : Value} {es : List Be} {ao : Option Addr} {bs : List Int} (h : Bkm w B bb sv dv bv cv es) (hB : B ≤ w.heap.size) (id sr ds : Int) (hrd : ∀ X, Kept w X (Bo bb sv dv bv cv) → Rd X ao n c bs) (hes : es.length ≤ 2199023255552) (hn : n ≤ 140737488355328) : Calls Try.prog 8 #[.pointer (some ⟨bb, 0, none⟩), .int .i64 id, .int .i64 sr, .int .i64 ds, .slice ao n c] w fun e w' => ∃ r, e = .returned (.bool r) ∧ (r = true ↔ id = (es.length : Int) + 1) ∧ ∃ sv' dv' bv' cv' a' c', Bkm w' B bb sv' dv' bv' cv' (es ++ [⟨sr, ds, a', c', bs, false⟩]) ∧ Kept w w' (Bo bb sv dv bv cv) ∧ (∀ j, Bo bb sv' dv' bv' cv' j → Bo bb sv dv bv cv j ∨ w.heap.size ≤ j) ∧ (∀ j, (Value.slice a' bs.length c').ownBlock = some j → w.heap.size ≤ j) := by
  obtain ⟨sa, sc, rfl⟩ := own_sh h.m.s
  obtain ⟨da, dc, rfl⟩ := own_sh h.m.d
  obtain ⟨ba, bc, rfl⟩ := own_sh h.m.b
  obtain ⟨ca, cc, rfl⟩ := own_sh h.m.c
  obtain ⟨ii, ihi, ihz0, ihz1, ihz2⟩ := tI
  obtain ⟨bi, bhi, bhz0, bhz1, bhz2⟩ := tB
  obtain ⟨ci, chi, chz0, chz1, chz2⟩ := tC
  obtain ⟨ui, uhi, uhz0, uhz1, uhz2⟩ := tU
  generalize hP : Bo bb (.slice sa es.length sc) (.slice da es.length dc) (.slice ba es.length bc) (.slice ca es.length cc) = P at hrd ⊢
  have hP0 : Pst w w B bb P (.slice sa es.length sc) (.slice da es.length dc) (.slice ba es.length bc) (.slice ca es.length cc) es.length es.length es.length es.length (e9 Be.src es) (e9 Be.dst es) (es.map Be.v) (es.map fun e => .bool e.come) := ⟨h.m, Kept.refl _ _, fun j hj => .inl (by rw [← hP]; exact hj), hB⟩
  have HP0 : Hid (Pst w w B bb P (.slice sa es.length sc) (.slice da es.length dc) (.slice ba es.length bc) (.slice ca es.length cc) es.length es.length es.length es.length (e9 Be.src es) (e9 Be.dst es) (es.map Be.v) (es.map fun e => .bool e.come)) := hP0
  have HF0 : Hid (Fam B 5 1 w es.length (fun i => (es.getD i e0).v) (fun i => (es.getD i e0).bs.length) (fun i => byl (es.getD i e0).bs)) := h.f
  have HR : Hid (∀ i j, 0 ≤ (es.getD i e0).bs.getD j 0 ∧ (es.getD i e0).bs.getD j 0 ≤ 255) := h.r
  have HRd : Hid (∀ X, Kept w X P → Rd X ao n c bs) := hrd
  have hb255 := (hrd w (Kept.refl _ _)).2.2.2
  have hbl := (hrd w (Kept.refl _ _)).1
  have Haz : Hid (ao = none → n = 0 ∧ c = 0) := (hrd w (Kept.refl _ _)).2.1
  have HPb : Hid (∀ j, P j → j < w.heap.size) := fun j hj => (h.m.lt (by rw [hP]; exact hj)).1
  have c0 : w.cell? ⟨bb, 0, none⟩ = some (.slice sa es.length sc) := blk_cell h.m.blk 0
  have Hls : Hid ((e9 Be.src es).length = es.length ∧ (e9 Be.dst es).length = es.length) := ⟨by simp [e9], by simp [e9]⟩
  clear h hP0 hP hrd
  generalize hN : es.length = N at *
  have HN : Hid (es.length = N) := hN
  clear hN
  go_enter Try.func8, Try.ntmps8
  go_upto_region 2 with (first
    | (refine wl_bsl rfl 30 3 1 _ rfl Try.underlying30 #[.int .i64 sr] (bsl_eq (by kernel_rfl) (bI1 sr)) ?_; intro Z1 kz1 bz1 sz1; have KZ1 : Hid (Z1.heap[w.heap.size]? = some (.cells #[.int .i64 sr] 3 (0, 0))) := kz1; have BZ1 : Hid (Below w.heap.size w Z1) := bz1; clear kz1 bz1 sz1; have HPz1 := HP0.out.still BZ1.out)
    | (refine app_g rfl _ _ 30 rfl B 3 ii (.int .i64 0) 1 8 Try.underlying30 ihi ihz0 ihz1 ihz2 rfl (by omega) (.slice sa N sc) N (e9 Be.src es) rfl HPz1.b.s (some ⟨w.heap.size, 0, none⟩) 1 1 [.int .i64 sr] rfl (fun h => by cases h) rfl (fun ad had j u hu => by cases had; rw [Addr.add_lit, Nat.zero_add, blk_cell KZ1.out]; simpa using hu) (oneV _ rfl) (by unfold maxLen; omega) (by omega) (Nat.le_trans HPz1.h HPz1.k.size) ?_; intro v1 Y1 ho1 hk1 hob1; obtain ⟨a1, c1, rfl⟩ := own_sh ho1.out; have hbk1 : Y1.heap[bb]? = some (.cells _ 34 (0, 0)) := hk1.out.obj HPz1.b.blk (own_bb HPz1.b.s HPz1.b.blk (by decide)))
    | (refine wl_stS rfl 30 _ _ rfl (g := bb) (p := 0) rfl rfl hbk1 (show 0 < 4 from by omega) oneTI rfl ?_)
    | fail)
  have HP1 : Hid (Pst w (Y1.setCell ⟨bb, 0, none⟩ (.slice a1 (N + 1) c1)) B bb P (.slice a1 (N + 1) c1) (.slice da N dc) (.slice ba N bc) (.slice ca N cc) (N + 1) N N N (e9 Be.src es ++ [.int .i64 sr]) (e9 Be.dst es) (es.map Be.v) (es.map fun e => .bool e.come)) := HPz1.putS ho1.out hk1.out hob1.out
  have HF1 : Hid (Fam B 5 1 (Y1.setCell ⟨bb, 0, none⟩ (.slice a1 (N + 1) c1)) N (fun i => (es.getD i e0).v) (fun i => (es.getD i e0).bs.length) (fun i => byl (es.getD i e0).bs)) := (HF0.out.still BZ1.out).thru HPz1.b.s (by decide) hk1.out hbk1
  generalize Y1.setCell ⟨bb, 0, none⟩ (.slice a1 (N + 1) c1) = V1 at *
  clear HPz1 ho1 hk1 hob1 hbk1 KZ1 BZ1 HP0 HF0 c0
  have q1 : V1.cell? ⟨bb, 1, none⟩ = some (.slice da N dc) := blk_cell HP1.out.b.blk 1
  go_upto_region 3 with (first
    | (refine wl_bsl rfl 30 3 1 _ rfl Try.underlying30 #[.int .i64 ds] (bsl_eq (by kernel_rfl) (bI1 ds)) ?_; intro Z2 kz2 bz2 sz2; have KZ2 : Hid (Z2.heap[V1.heap.size]? = some (.cells #[.int .i64 ds] 3 (0, 0))) := kz2; have BZ2 : Hid (Below V1.heap.size V1 Z2) := bz2; clear kz2 bz2 sz2; have HPz2 := HP1.out.still BZ2.out)
    | (refine app_g rfl _ _ 30 rfl B 3 ii (.int .i64 0) 1 8 Try.underlying30 ihi ihz0 ihz1 ihz2 rfl (by omega) (.slice da N dc) N (e9 Be.dst es) rfl HPz2.b.d (some ⟨V1.heap.size, 0, none⟩) 1 1 [.int .i64 ds] rfl (fun h => by cases h) rfl (fun ad had j u hu => by cases had; rw [Addr.add_lit, Nat.zero_add, blk_cell KZ2.out]; simpa using hu) (oneV _ rfl) (by unfold maxLen; omega) (by omega) (Nat.le_trans HPz2.h HPz2.k.size) ?_; intro v2 Y2 ho2 hk2 hob2; obtain ⟨a2, c2, rfl⟩ := own_sh ho2.out; have hbk2 : Y2.heap[bb]? = some (.cells _ 34 (0, 0)) := hk2.out.obj HPz2.b.blk (own_bb HPz2.b.d HPz2.b.blk (by decide)))
    | (refine wl_stS rfl 30 _ _ rfl (g := bb) (p := 1) rfl rfl hbk2 (show 1 < 4 from by omega) oneTI rfl ?_)
    | fail)
  have HP2 : Hid (Pst w (Y2.setCell ⟨bb, 1, none⟩ (.slice a2 (N + 1) c2)) B bb P (.slice a1 (N + 1) c1) (.slice a2 (N + 1) c2) (.slice ba N bc) (.slice ca N cc) (N + 1) (N + 1) N N (e9 Be.src es ++ [.int .i64 sr]) (e9 Be.dst es ++ [.int .i64 ds]) (es.map Be.v) (es.map fun e => .bool e.come)) := HPz2.putD ho2.out hk2.out hob2.out
  have HF2 : Hid (Fam B 5 1 (Y2.setCell ⟨bb, 1, none⟩ (.slice a2 (N + 1) c2)) N (fun i => (es.getD i e0).v) (fun i => (es.getD i e0).bs.length) (fun i => byl (es.getD i e0).bs)) := (HF1.out.still BZ2.out).thru HPz2.b.d (by decide) hk2.out hbk2
  generalize Y2.setCell ⟨bb, 1, none⟩ (.slice a2 (N + 1) c2) = V2 at *
  clear HPz2 ho2 hk2 hob2 hbk2 KZ2 BZ2 HP1 HF1 q1
  go_cut [10] (fun r wx => r = .bool false ∧ ∃ (a6 : Option Addr) (c6 : Nat) (a3 : Option Addr) (c3 : Nat), Pst w wx B bb P (.slice a1 (N + 1) c1) (.slice a2 (N + 1) c2) (.slice a6 (N + 1) c6) (.slice ca N cc) (N + 1) (N + 1) (N + 1) N (e9 Be.src es ++ [.int .i64 sr]) (e9 Be.dst es ++ [.int .i64 ds]) (es.map Be.v ++ [.slice a3 n c3]) (es.map fun e => .bool e.come) ∧ wx.ownsRow V2.heap.size 5 1 (.slice a3 n c3) n (byl bs) ∧ Fam B 5 1 wx N (fun i => (es.getD i e0).v) (fun i => (es.getD i e0).bs.length) (fun i => byl (es.getD i e0).bs))
  case first =>
    refine wp_region_held_drew (S := (fun _ => True)) (by kernel_rfl) trivial (fun hHeld => ?_)
    simp only [Act.put, List.size_toArray, List.length_cons, List.length_nil, Nat.zero_add]
    have HPd : Hid (Pst w V2.drew B bb P (.slice a1 (N + 1) c1) (.slice a2 (N + 1) c2) (.slice ba N bc) (.slice ca N cc) (N + 1) (N + 1) N N (e9 Be.src es ++ [.int .i64 sr]) (e9 Be.dst es ++ [.int .i64 ds]) (es.map Be.v) (es.map fun e => .bool e.come)) := HP2.out.still (Below.refl _ _).drew
    have HFd : Hid (Fam B 5 1 V2.drew N (fun i => (es.getD i e0).v) (fun i => (es.getD i e0).bs.length) (fun i => byl (es.getD i e0).bs)) := HF2.out.still (Below.refl _ _).drew
    have Hsz : Hid (V2.heap.size ≤ V2.drew.heap.size) := (show V2.heap.size ≤ V2.drew.heap.size from (Below.refl V2.heap.size V2).drew.size)
    clear HP2 HF2
    generalize V2.drew = Vd at *
    refine wpAnyH_take (i := 0) (v := .pointer (some ⟨bb, 0, none⟩)) rfl (by kernel_rfl) (by kernel_rfl) (by kernel_rfl) (fun _ _ _ h => h) (Or.inl ⟨by rfl, fun w' hS => by go_simp⟩) hHeld ?_
    simp only [Act.put, List.getElem_toArray, List.getElem_cons_zero, List.getElem_cons_succ, List.setIfInBounds_toArray, List.set_cons_zero, List.set_cons_succ]
    refine wpAnyH_take (i := 1) (v := .pointer (some ⟨bb, 0, none⟩)) rfl (by kernel_rfl) (by kernel_rfl) (by kernel_rfl) (fun _ _ _ h => h) (Or.inl ⟨by rfl, fun w' hS => by go_simp⟩) hHeld ?_
    simp only [Act.put, List.getElem_toArray, List.getElem_cons_zero, List.getElem_cons_succ, List.setIfInBounds_toArray, List.set_cons_zero, List.set_cons_succ]
    refine wpAnyH_take (i := 2) (v := .pointer (some ⟨bb, 0, none⟩)) rfl (by kernel_rfl) (by kernel_rfl) (by kernel_rfl) (fun _ _ _ h => h) (Or.inl ⟨by rfl, fun w' hS => by go_simp⟩) hHeld ?_
    simp only [Act.put, List.getElem_toArray, List.getElem_cons_zero, List.getElem_cons_succ, List.setIfInBounds_toArray, List.set_cons_zero, List.set_cons_succ]
    refine wpAnyH_take (i := 3) (v := .pointer (some ⟨bb, 2, none⟩)) rfl (by kernel_rfl) (by kernel_rfl) (by kernel_rfl) (fun _ _ _ h => h) (Or.inl ⟨by rfl, fun w' hS => by go_simp⟩) hHeld ?_
    simp only [Act.put, List.getElem_toArray, List.getElem_cons_zero, List.getElem_cons_succ, List.setIfInBounds_toArray, List.set_cons_zero, List.set_cons_succ]
    refine wpAnyH_take (i := 6) (v := .slice ao n c) rfl (by kernel_rfl) (by kernel_rfl) (by kernel_rfl) (fun _ _ _ h => h) (Or.inl ⟨by rfl, fun w' hS => by go_simp⟩) hHeld ?_
    simp only [Act.put, List.getElem_toArray, List.getElem_cons_zero, List.getElem_cons_succ, List.setIfInBounds_toArray, List.set_cons_zero, List.set_cons_succ]
    refine wpAnyH_ready (rs := [4, 5]) (by kernel_rfl) (by simp) ?_
    refine AllReadyH.cons rfl (fun K hK => ?_) (AllReadyH.cons rfl (fun K hK => ?_) AllReadyH.nil)
    · have q2 : Vd.cell? ⟨bb, 2, none⟩ = some (.slice ba N bc) := blk_cell HPd.out.b.blk 2
      go_simp
      clear q2
      refine hK.out _ _ trivial (fun hHeld => ?_)
      clear hK K
      try (simp only [Act.put, List.getElem_toArray, List.getElem_cons_zero, List.getElem_cons_succ, List.setIfInBounds_toArray, List.set_cons_zero, List.set_cons_succ])
      refine wpAnyH_ready (rs := [5]) (by kernel_rfl) (by simp) ?_
      refine AllReadyH.cons rfl (fun K hK => ?_) AllReadyH.nil
      go_simp
      obtain ⟨bz, kz⟩ := bel_new (Z := #[]) (T := 5) Vd
      generalize Vd.alloc (.cells #[] 5) = Z3 at bz kz ⊢
      have KZ : Hid (Z3.heap[Vd.heap.size]? = some (.cells #[] 5 (0, 0))) := kz
      have BZ : Hid (Below Vd.heap.size Vd Z3) := bz
      have HPa : Hid (Pst w Z3 B bb P (.slice a1 (N + 1) c1) (.slice a2 (N + 1) c2) (.slice ba N bc) (.slice ca N cc) (N + 1) (N + 1) N N (e9 Be.src es ++ [.int .i64 sr]) (e9 Be.dst es ++ [.int .i64 ds]) (es.map Be.v) (es.map fun e => .bool e.come)) := HPd.out.still bz
      clear kz bz
      refine hK.out _ _ trivial (fun hHeld => ?_)
      clear hK K
      try (simp only [Act.put, List.getElem_toArray, List.getElem_cons_zero, List.getElem_cons_succ, List.setIfInBounds_toArray, List.set_cons_zero, List.set_cons_succ])
      refine wpAnyH_ready (rs := [7]) (by kernel_rfl) (by simp) ?_
      refine AllReadyH.cons rfl (fun K hK => ?_) AllReadyH.nil
      refine step_copyA rfl _ _ 35 5 rfl ui (.int .u8 0) 1 1 Try.underlying35 uhi uhz0 uhz1 uhz2 rfl (by omega) rfl KZ.out ao n c (byl bs) rfl Haz.out (by rw [byl_len, hbl, Nat.mul_one]) (fun ad had => (HRd.out Z3 HPa.out.k).cells ad had) (byl_one bs) (by unfold maxLen; omega) (by omega) ?_
      intro a3 c3 Z4 ho hk
      have HO : Hid (Z4.ownsRow Vd.heap.size 5 1 (.slice a3 n c3) n (byl bs)) := ho
      have B4 : Hid (Below Vd.heap.size Vd Z4) := BZ.out.trans (hk.below BZ.out.size (fun q hq e => by omega))
      have HPb4 : Hid (Pst w Z4 B bb P (.slice a1 (N + 1) c1) (.slice a2 (N + 1) c2) (.slice ba N bc) (.slice ca N cc) (N + 1) (N + 1) N N (e9 Be.src es ++ [.int .i64 sr]) (e9 Be.dst es ++ [.int .i64 ds]) (es.map Be.v) (es.map fun e => .bool e.come)) := HPd.out.still B4.out
      clear ho hk
      refine hK.out _ _ trivial (fun hHeld => ?_)
      clear hK K
      try (simp only [Act.put, List.getElem_toArray, List.getElem_cons_zero, List.getElem_cons_succ, List.setIfInBounds_toArray, List.set_cons_zero, List.set_cons_succ])
      refine wpAnyH_ready (rs := [8]) (by kernel_rfl) (by simp) ?_
      refine AllReadyH.cons rfl (fun K hK => ?_) AllReadyH.nil
      refine step_bsl rfl 31 35 1 _ rfl Try.underlying31 #[.slice a3 n c3] (bsl_eq (by kernel_rfl) (bS1 a3 n c3)) ?_
      intro Z5 k5 b5 s5
      have K5 : Hid (Z5.heap[Z4.heap.size]? = some (.cells #[.slice a3 n c3] 35 (0, 0))) := k5
      have B5 : Hid (Below Z4.heap.size Z4 Z5) := b5
      have HP5 : Hid (Pst w Z5 B bb P (.slice a1 (N + 1) c1) (.slice a2 (N + 1) c2) (.slice ba N bc) (.slice ca N cc) (N + 1) (N + 1) N N (e9 Be.src es ++ [.int .i64 sr]) (e9 Be.dst es ++ [.int .i64 ds]) (es.map Be.v) (es.map fun e => .bool e.come)) := HPb4.out.still b5
      clear k5 b5 s5
      refine hK.out _ _ trivial (fun hHeld => ?_)
      clear hK K
      try (simp only [Act.put, List.getElem_toArray, List.getElem_cons_zero, List.getElem_cons_succ, List.setIfInBounds_toArray, List.set_cons_zero, List.set_cons_succ])
      refine wpAnyH_ready (rs := [9]) (by kernel_rfl) (by simp) ?_
      refine AllReadyH.cons rfl (fun K hK => ?_) AllReadyH.nil
      refine step_appH rfl _ _ 31 rfl B 35 bi (.slice none 0 0) 1 24 Try.underlying31 bhi bhz0 bhz1 bhz2 rfl (by omega) (.slice ba N bc) N (es.map Be.v) rfl HP5.out.b.b [.slice a3 n c3] rfl rfl K5.out (oneV _ rfl) (by unfold maxLen; omega) (by omega) (Nat.le_trans HP5.out.h HP5.out.k.size) ?_
      intro v6 Z6 ho6 hk6 he6
      obtain ⟨a6, c6, rfl⟩ := own_sh ho6
      have hbk : Z6.heap[bb]? = some (.cells #[.slice a1 (N + 1) c1, .slice a2 (N + 1) c2, .slice ba N bc, .slice ca N cc] 34 (0, 0)) := hk6.obj HP5.out.b.blk (own_bb HP5.out.b.b HP5.out.b.blk (by decide))
      have Hbk : Hid (Z6.heap[bb]? = some (.cells #[.slice a1 (N + 1) c1, .slice a2 (N + 1) c2, .slice ba N bc, .slice ca N cc] 34 (0, 0))) := hbk
      have HP6 : Hid (Pst w (Z6.setCell ⟨bb, 2, none⟩ (.slice a6 (N + 1) c6)) B bb P (.slice a1 (N + 1) c1) (.slice a2 (N + 1) c2) (.slice a6 (N + 1) c6) (.slice ca N cc) (N + 1) (N + 1) (N + 1) N (e9 Be.src es ++ [.int .i64 sr]) (e9 Be.dst es ++ [.int .i64 ds]) (es.map Be.v ++ [.slice a3 n c3]) (es.map fun e => .bool e.come)) := HP5.out.putB ho6 hk6 he6
      have HOz : Hid (Z6.ownsRow Vd.heap.size 5 1 (.slice a3 n c3) n (byl bs)) := own_keptT (own_still HO.out B5.out) HP5.out.b.b hk6 (by decide)
      have HO6 : Hid ((Z6.setCell ⟨bb, 2, none⟩ (.slice a6 (N + 1) c6)).ownsRow Vd.heap.size 5 1 (.slice a3 n c3) n (byl bs)) := own_set HOz.out (own_bb HOz.out hbk (by decide))
      have HF6 : Hid (Fam B 5 1 (Z6.setCell ⟨bb, 2, none⟩ (.slice a6 (N + 1) c6)) N (fun i => (es.getD i e0).v) (fun i => (es.getD i e0).bs.length) (fun i => byl (es.getD i e0).bs)) := ((HFd.out.still B4.out).still B5.out).thru HP5.out.b.b (by decide) hk6 hbk
      clear ho6 hk6 he6 hbk
      refine hK.out _ _ trivial (fun hHeld => ?_)
      clear hK K
      try (simp only [Act.put, List.getElem_toArray, List.getElem_cons_zero, List.getElem_cons_succ, List.setIfInBounds_toArray, List.set_cons_zero, List.set_cons_succ])
      refine wpAnyH_take (i := 10) (v := .pointer (some ⟨bb, 0, none⟩)) rfl (by kernel_rfl) (by kernel_rfl) (by kernel_rfl) (fun _ _ _ h => h) (Or.inl ⟨by rfl, fun w' hS => by go_simp⟩) hHeld ?_
      simp only [Act.put, List.getElem_toArray, List.getElem_cons_zero, List.getElem_cons_succ, List.setIfInBounds_toArray, List.set_cons_zero, List.set_cons_succ]
      refine wpAnyH_take (i := 11) (v := .pointer (some ⟨bb, 2, none⟩)) rfl (by kernel_rfl) (by kernel_rfl) (by kernel_rfl) (fun _ _ _ h => h) (Or.inl ⟨by rfl, fun w' hS => by go_simp⟩) hHeld ?_
      simp only [Act.put, List.getElem_toArray, List.getElem_cons_zero, List.getElem_cons_succ, List.setIfInBounds_toArray, List.set_cons_zero, List.set_cons_succ]
      refine wpAnyH_ready (rs := [12]) (by kernel_rfl) (by simp) ?_
      refine AllReadyH.cons rfl (fun K hK => ?_) AllReadyH.nil
      refine step_stS rfl 31 _ _ rfl (g := bb) (p := 2) rfl rfl Hbk.out (show 2 < 4 from by omega) oneTB rfl ?_
      refine hK.out _ _ trivial (fun hHeld => ?_)
      clear hK K
      try (simp only [Act.put, List.getElem_toArray, List.getElem_cons_zero, List.getElem_cons_succ, List.setIfInBounds_toArray, List.set_cons_zero, List.set_cons_succ])
      refine wpAnyH_done (by kernel_rfl) ?_ _
      clear hHeld
      go_wp2
      go_meet
      exact ⟨rfl, a6, c6, a3, c3, HP6.out, own_lower HO6.out Hsz.out, HF6.out⟩
    · go_simp
      obtain ⟨bz, kz⟩ := bel_new (Z := #[]) (T := 5) Vd
      generalize Vd.alloc (.cells #[] 5) = Z3 at bz kz ⊢
      have KZ : Hid (Z3.heap[Vd.heap.size]? = some (.cells #[] 5 (0, 0))) := kz
      have BZ : Hid (Below Vd.heap.size Vd Z3) := bz
      have HPa : Hid (Pst w Z3 B bb P (.slice a1 (N + 1) c1) (.slice a2 (N + 1) c2) (.slice ba N bc) (.slice ca N cc) (N + 1) (N + 1) N N (e9 Be.src es ++ [.int .i64 sr]) (e9 Be.dst es ++ [.int .i64 ds]) (es.map Be.v) (es.map fun e => .bool e.come)) := HPd.out.still bz
      clear kz bz
      refine hK.out _ _ trivial (fun hHeld => ?_)
      clear hK K
      try (simp only [Act.put, List.getElem_toArray, List.getElem_cons_zero, List.getElem_cons_succ, List.setIfInBounds_toArray, List.set_cons_zero, List.set_cons_succ])
      refine wpAnyH_ready (rs := [4, 7]) (by kernel_rfl) (by simp) ?_
      refine AllReadyH.cons rfl (fun K hK => ?_) (AllReadyH.cons rfl (fun K hK => ?_) AllReadyH.nil)
      · have q2 : Z3.cell? ⟨bb, 2, none⟩ = some (.slice ba N bc) := blk_cell HPa.out.b.blk 2
        go_simp
        clear q2
        refine hK.out _ _ trivial (fun hHeld => ?_)
        clear hK K
        try (simp only [Act.put, List.getElem_toArray, List.getElem_cons_zero, List.getElem_cons_succ, List.setIfInBounds_toArray, List.set_cons_zero, List.set_cons_succ])
        refine wpAnyH_ready (rs := [7]) (by kernel_rfl) (by simp) ?_
        refine AllReadyH.cons rfl (fun K hK => ?_) AllReadyH.nil
        refine step_copyA rfl _ _ 35 5 rfl ui (.int .u8 0) 1 1 Try.underlying35 uhi uhz0 uhz1 uhz2 rfl (by omega) rfl KZ.out ao n c (byl bs) rfl Haz.out (by rw [byl_len, hbl, Nat.mul_one]) (fun ad had => (HRd.out Z3 HPa.out.k).cells ad had) (byl_one bs) (by unfold maxLen; omega) (by omega) ?_
        intro a3 c3 Z4 ho hk
        have HO : Hid (Z4.ownsRow Vd.heap.size 5 1 (.slice a3 n c3) n (byl bs)) := ho
        have B4 : Hid (Below Vd.heap.size Vd Z4) := BZ.out.trans (hk.below BZ.out.size (fun q hq e => by omega))
        have HPb4 : Hid (Pst w Z4 B bb P (.slice a1 (N + 1) c1) (.slice a2 (N + 1) c2) (.slice ba N bc) (.slice ca N cc) (N + 1) (N + 1) N N (e9 Be.src es ++ [.int .i64 sr]) (e9 Be.dst es ++ [.int .i64 ds]) (es.map Be.v) (es.map fun e => .bool e.come)) := HPd.out.still B4.out
        clear ho hk
        refine hK.out _ _ trivial (fun hHeld => ?_)
        clear hK K
        try (simp only [Act.put, List.getElem_toArray, List.getElem_cons_zero, List.getElem_cons_succ, List.setIfInBounds_toArray, List.set_cons_zero, List.set_cons_succ])
        refine wpAnyH_ready (rs := [8]) (by kernel_rfl) (by simp) ?_
        refine AllReadyH.cons rfl (fun K hK => ?_) AllReadyH.nil
        refine step_bsl rfl 31 35 1 _ rfl Try.underlying31 #[.slice a3 n c3] (bsl_eq (by kernel_rfl) (bS1 a3 n c3)) ?_
        intro Z5 k5 b5 s5
        have K5 : Hid (Z5.heap[Z4.heap.size]? = some (.cells #[.slice a3 n c3] 35 (0, 0))) := k5
        have B5 : Hid (Below Z4.heap.size Z4 Z5) := b5
        have HP5 : Hid (Pst w Z5 B bb P (.slice a1 (N + 1) c1) (.slice a2 (N + 1) c2) (.slice ba N bc) (.slice ca N cc) (N + 1) (N + 1) N N (e9 Be.src es ++ [.int .i64 sr]) (e9 Be.dst es ++ [.int .i64 ds]) (es.map Be.v) (es.map fun e => .bool e.come)) := HPb4.out.still b5
        clear k5 b5 s5
        refine hK.out _ _ trivial (fun hHeld => ?_)
        clear hK K
        try (simp only [Act.put, List.getElem_toArray, List.getElem_cons_zero, List.getElem_cons_succ, List.setIfInBounds_toArray, List.set_cons_zero, List.set_cons_succ])
        refine wpAnyH_ready (rs := [9]) (by kernel_rfl) (by simp) ?_
        refine AllReadyH.cons rfl (fun K hK => ?_) AllReadyH.nil
        refine step_appH rfl _ _ 31 rfl B 35 bi (.slice none 0 0) 1 24 Try.underlying31 bhi bhz0 bhz1 bhz2 rfl (by omega) (.slice ba N bc) N (es.map Be.v) rfl HP5.out.b.b [.slice a3 n c3] rfl rfl K5.out (oneV _ rfl) (by unfold maxLen; omega) (by omega) (Nat.le_trans HP5.out.h HP5.out.k.size) ?_
        intro v6 Z6 ho6 hk6 he6
        obtain ⟨a6, c6, rfl⟩ := own_sh ho6
        have hbk : Z6.heap[bb]? = some (.cells #[.slice a1 (N + 1) c1, .slice a2 (N + 1) c2, .slice ba N bc, .slice ca N cc] 34 (0, 0)) := hk6.obj HP5.out.b.blk (own_bb HP5.out.b.b HP5.out.b.blk (by decide))
        have Hbk : Hid (Z6.heap[bb]? = some (.cells #[.slice a1 (N + 1) c1, .slice a2 (N + 1) c2, .slice ba N bc, .slice ca N cc] 34 (0, 0))) := hbk
        have HP6 : Hid (Pst w (Z6.setCell ⟨bb, 2, none⟩ (.slice a6 (N + 1) c6)) B bb P (.slice a1 (N + 1) c1) (.slice a2 (N + 1) c2) (.slice a6 (N + 1) c6) (.slice ca N cc) (N + 1) (N + 1) (N + 1) N (e9 Be.src es ++ [.int .i64 sr]) (e9 Be.dst es ++ [.int .i64 ds]) (es.map Be.v ++ [.slice a3 n c3]) (es.map fun e => .bool e.come)) := HP5.out.putB ho6 hk6 he6
        have HOz : Hid (Z6.ownsRow Vd.heap.size 5 1 (.slice a3 n c3) n (byl bs)) := own_keptT (own_still HO.out B5.out) HP5.out.b.b hk6 (by decide)
        have HO6 : Hid ((Z6.setCell ⟨bb, 2, none⟩ (.slice a6 (N + 1) c6)).ownsRow Vd.heap.size 5 1 (.slice a3 n c3) n (byl bs)) := own_set HOz.out (own_bb HOz.out hbk (by decide))
        have HF6 : Hid (Fam B 5 1 (Z6.setCell ⟨bb, 2, none⟩ (.slice a6 (N + 1) c6)) N (fun i => (es.getD i e0).v) (fun i => (es.getD i e0).bs.length) (fun i => byl (es.getD i e0).bs)) := ((HFd.out.still B4.out).still B5.out).thru HP5.out.b.b (by decide) hk6 hbk
        clear ho6 hk6 he6 hbk
        refine hK.out _ _ trivial (fun hHeld => ?_)
        clear hK K
        try (simp only [Act.put, List.getElem_toArray, List.getElem_cons_zero, List.getElem_cons_succ, List.setIfInBounds_toArray, List.set_cons_zero, List.set_cons_succ])
        refine wpAnyH_take (i := 10) (v := .pointer (some ⟨bb, 0, none⟩)) rfl (by kernel_rfl) (by kernel_rfl) (by kernel_rfl) (fun _ _ _ h => h) (Or.inl ⟨by rfl, fun w' hS => by go_simp⟩) hHeld ?_
        simp only [Act.put, List.getElem_toArray, List.getElem_cons_zero, List.getElem_cons_succ, List.setIfInBounds_toArray, List.set_cons_zero, List.set_cons_succ]
        refine wpAnyH_take (i := 11) (v := .pointer (some ⟨bb, 2, none⟩)) rfl (by kernel_rfl) (by kernel_rfl) (by kernel_rfl) (fun _ _ _ h => h) (Or.inl ⟨by rfl, fun w' hS => by go_simp⟩) hHeld ?_
        simp only [Act.put, List.getElem_toArray, List.getElem_cons_zero, List.getElem_cons_succ, List.setIfInBounds_toArray, List.set_cons_zero, List.set_cons_succ]
        refine wpAnyH_ready (rs := [12]) (by kernel_rfl) (by simp) ?_
        refine AllReadyH.cons rfl (fun K hK => ?_) AllReadyH.nil
        refine step_stS rfl 31 _ _ rfl (g := bb) (p := 2) rfl rfl Hbk.out (show 2 < 4 from by omega) oneTB rfl ?_
        refine hK.out _ _ trivial (fun hHeld => ?_)
        clear hK K
        try (simp only [Act.put, List.getElem_toArray, List.getElem_cons_zero, List.getElem_cons_succ, List.setIfInBounds_toArray, List.set_cons_zero, List.set_cons_succ])
        refine wpAnyH_done (by kernel_rfl) ?_ _
        clear hHeld
        go_wp2
        go_meet
        exact ⟨rfl, a6, c6, a3, c3, HP6.out, own_lower HO6.out Hsz.out, HF6.out⟩
      · refine step_copyA rfl _ _ 35 5 rfl ui (.int .u8 0) 1 1 Try.underlying35 uhi uhz0 uhz1 uhz2 rfl (by omega) rfl KZ.out ao n c (byl bs) rfl Haz.out (by rw [byl_len, hbl, Nat.mul_one]) (fun ad had => (HRd.out Z3 HPa.out.k).cells ad had) (byl_one bs) (by unfold maxLen; omega) (by omega) ?_
        intro a3 c3 Z4 ho hk
        have HO : Hid (Z4.ownsRow Vd.heap.size 5 1 (.slice a3 n c3) n (byl bs)) := ho
        have B4 : Hid (Below Vd.heap.size Vd Z4) := BZ.out.trans (hk.below BZ.out.size (fun q hq e => by omega))
        have HPb4 : Hid (Pst w Z4 B bb P (.slice a1 (N + 1) c1) (.slice a2 (N + 1) c2) (.slice ba N bc) (.slice ca N cc) (N + 1) (N + 1) N N (e9 Be.src es ++ [.int .i64 sr]) (e9 Be.dst es ++ [.int .i64 ds]) (es.map Be.v) (es.map fun e => .bool e.come)) := HPd.out.still B4.out
        clear ho hk
        refine hK.out _ _ trivial (fun hHeld => ?_)
        clear hK K
        try (simp only [Act.put, List.getElem_toArray, List.getElem_cons_zero, List.getElem_cons_succ, List.setIfInBounds_toArray, List.set_cons_zero, List.set_cons_succ])
        refine wpAnyH_ready (rs := [4, 8]) (by kernel_rfl) (by simp) ?_
        refine AllReadyH.cons rfl (fun K hK => ?_) (AllReadyH.cons rfl (fun K hK => ?_) AllReadyH.nil)
        · have q2 : Z4.cell? ⟨bb, 2, none⟩ = some (.slice ba N bc) := blk_cell HPb4.out.b.blk 2
          go_simp
          clear q2
          refine hK.out _ _ trivial (fun hHeld => ?_)
          clear hK K
          try (simp only [Act.put, List.getElem_toArray, List.getElem_cons_zero, List.getElem_cons_succ, List.setIfInBounds_toArray, List.set_cons_zero, List.set_cons_succ])
          refine wpAnyH_ready (rs := [8]) (by kernel_rfl) (by simp) ?_
          refine AllReadyH.cons rfl (fun K hK => ?_) AllReadyH.nil
          refine step_bsl rfl 31 35 1 _ rfl Try.underlying31 #[.slice a3 n c3] (bsl_eq (by kernel_rfl) (bS1 a3 n c3)) ?_
          intro Z5 k5 b5 s5
          have K5 : Hid (Z5.heap[Z4.heap.size]? = some (.cells #[.slice a3 n c3] 35 (0, 0))) := k5
          have B5 : Hid (Below Z4.heap.size Z4 Z5) := b5
          have HP5 : Hid (Pst w Z5 B bb P (.slice a1 (N + 1) c1) (.slice a2 (N + 1) c2) (.slice ba N bc) (.slice ca N cc) (N + 1) (N + 1) N N (e9 Be.src es ++ [.int .i64 sr]) (e9 Be.dst es ++ [.int .i64 ds]) (es.map Be.v) (es.map fun e => .bool e.come)) := HPb4.out.still b5
          clear k5 b5 s5
          refine hK.out _ _ trivial (fun hHeld => ?_)
          clear hK K
          try (simp only [Act.put, List.getElem_toArray, List.getElem_cons_zero, List.getElem_cons_succ, List.setIfInBounds_toArray, List.set_cons_zero, List.set_cons_succ])
          refine wpAnyH_ready (rs := [9]) (by kernel_rfl) (by simp) ?_
          refine AllReadyH.cons rfl (fun K hK => ?_) AllReadyH.nil
          refine step_appH rfl _ _ 31 rfl B 35 bi (.slice none 0 0) 1 24 Try.underlying31 bhi bhz0 bhz1 bhz2 rfl (by omega) (.slice ba N bc) N (es.map Be.v) rfl HP5.out.b.b [.slice a3 n c3] rfl rfl K5.out (oneV _ rfl) (by unfold maxLen; omega) (by omega) (Nat.le_trans HP5.out.h HP5.out.k.size) ?_
          intro v6 Z6 ho6 hk6 he6
          obtain ⟨a6, c6, rfl⟩ := own_sh ho6
          have hbk : Z6.heap[bb]? = some (.cells #[.slice a1 (N + 1) c1, .slice a2 (N + 1) c2, .slice ba N bc, .slice ca N cc] 34 (0, 0)) := hk6.obj HP5.out.b.blk (own_bb HP5.out.b.b HP5.out.b.blk (by decide))
          have Hbk : Hid (Z6.heap[bb]? = some (.cells #[.slice a1 (N + 1) c1, .slice a2 (N + 1) c2, .slice ba N bc, .slice ca N cc] 34 (0, 0))) := hbk
          have HP6 : Hid (Pst w (Z6.setCell ⟨bb, 2, none⟩ (.slice a6 (N + 1) c6)) B bb P (.slice a1 (N + 1) c1) (.slice a2 (N + 1) c2) (.slice a6 (N + 1) c6) (.slice ca N cc) (N + 1) (N + 1) (N + 1) N (e9 Be.src es ++ [.int .i64 sr]) (e9 Be.dst es ++ [.int .i64 ds]) (es.map Be.v ++ [.slice a3 n c3]) (es.map fun e => .bool e.come)) := HP5.out.putB ho6 hk6 he6
          have HOz : Hid (Z6.ownsRow Vd.heap.size 5 1 (.slice a3 n c3) n (byl bs)) := own_keptT (own_still HO.out B5.out) HP5.out.b.b hk6 (by decide)
          have HO6 : Hid ((Z6.setCell ⟨bb, 2, none⟩ (.slice a6 (N + 1) c6)).ownsRow Vd.heap.size 5 1 (.slice a3 n c3) n (byl bs)) := own_set HOz.out (own_bb HOz.out hbk (by decide))
          have HF6 : Hid (Fam B 5 1 (Z6.setCell ⟨bb, 2, none⟩ (.slice a6 (N + 1) c6)) N (fun i => (es.getD i e0).v) (fun i => (es.getD i e0).bs.length) (fun i => byl (es.getD i e0).bs)) := ((HFd.out.still B4.out).still B5.out).thru HP5.out.b.b (by decide) hk6 hbk
          clear ho6 hk6 he6 hbk
          refine hK.out _ _ trivial (fun hHeld => ?_)
          clear hK K
          try (simp only [Act.put, List.getElem_toArray, List.getElem_cons_zero, List.getElem_cons_succ, List.setIfInBounds_toArray, List.set_cons_zero, List.set_cons_succ])
          refine wpAnyH_take (i := 10) (v := .pointer (some ⟨bb, 0, none⟩)) rfl (by kernel_rfl) (by kernel_rfl) (by kernel_rfl) (fun _ _ _ h => h) (Or.inl ⟨by rfl, fun w' hS => by go_simp⟩) hHeld ?_
          simp only [Act.put, List.getElem_toArray, List.getElem_cons_zero, List.getElem_cons_succ, List.setIfInBounds_toArray, List.set_cons_zero, List.set_cons_succ]
          refine wpAnyH_take (i := 11) (v := .pointer (some ⟨bb, 2, none⟩)) rfl (by kernel_rfl) (by kernel_rfl) (by kernel_rfl) (fun _ _ _ h => h) (Or.inl ⟨by rfl, fun w' hS => by go_simp⟩) hHeld ?_
          simp only [Act.put, List.getElem_toArray, List.getElem_cons_zero, List.getElem_cons_succ, List.setIfInBounds_toArray, List.set_cons_zero, List.set_cons_succ]
          refine wpAnyH_ready (rs := [12]) (by kernel_rfl) (by simp) ?_
          refine AllReadyH.cons rfl (fun K hK => ?_) AllReadyH.nil
          refine step_stS rfl 31 _ _ rfl (g := bb) (p := 2) rfl rfl Hbk.out (show 2 < 4 from by omega) oneTB rfl ?_
          refine hK.out _ _ trivial (fun hHeld => ?_)
          clear hK K
          try (simp only [Act.put, List.getElem_toArray, List.getElem_cons_zero, List.getElem_cons_succ, List.setIfInBounds_toArray, List.set_cons_zero, List.set_cons_succ])
          refine wpAnyH_done (by kernel_rfl) ?_ _
          clear hHeld
          go_wp2
          go_meet
          exact ⟨rfl, a6, c6, a3, c3, HP6.out, own_lower HO6.out Hsz.out, HF6.out⟩
        · refine step_bsl rfl 31 35 1 _ rfl Try.underlying31 #[.slice a3 n c3] (bsl_eq (by kernel_rfl) (bS1 a3 n c3)) ?_
          intro Z5 k5 b5 s5
          have K5 : Hid (Z5.heap[Z4.heap.size]? = some (.cells #[.slice a3 n c3] 35 (0, 0))) := k5
          have B5 : Hid (Below Z4.heap.size Z4 Z5) := b5
          have HP5 : Hid (Pst w Z5 B bb P (.slice a1 (N + 1) c1) (.slice a2 (N + 1) c2) (.slice ba N bc) (.slice ca N cc) (N + 1) (N + 1) N N (e9 Be.src es ++ [.int .i64 sr]) (e9 Be.dst es ++ [.int .i64 ds]) (es.map Be.v) (es.map fun e => .bool e.come)) := HPb4.out.still b5
          clear k5 b5 s5
          refine hK.out _ _ trivial (fun hHeld => ?_)
          clear hK K
          try (simp only [Act.put, List.getElem_toArray, List.getElem_cons_zero, List.getElem_cons_succ, List.setIfInBounds_toArray, List.set_cons_zero, List.set_cons_succ])
          refine wpAnyH_ready (rs := [4]) (by kernel_rfl) (by simp) ?_
          refine AllReadyH.cons rfl (fun K hK => ?_) AllReadyH.nil
          have q2 : Z5.cell? ⟨bb, 2, none⟩ = some (.slice ba N bc) := blk_cell HP5.out.b.blk 2
          go_simp
          clear q2
          refine hK.out _ _ trivial (fun hHeld => ?_)
          clear hK K
          try (simp only [Act.put, List.getElem_toArray, List.getElem_cons_zero, List.getElem_cons_succ, List.setIfInBounds_toArray, List.set_cons_zero, List.set_cons_succ])
          refine wpAnyH_ready (rs := [9]) (by kernel_rfl) (by simp) ?_
          refine AllReadyH.cons rfl (fun K hK => ?_) AllReadyH.nil
          refine step_appH rfl _ _ 31 rfl B 35 bi (.slice none 0 0) 1 24 Try.underlying31 bhi bhz0 bhz1 bhz2 rfl (by omega) (.slice ba N bc) N (es.map Be.v) rfl HP5.out.b.b [.slice a3 n c3] rfl rfl K5.out (oneV _ rfl) (by unfold maxLen; omega) (by omega) (Nat.le_trans HP5.out.h HP5.out.k.size) ?_
          intro v6 Z6 ho6 hk6 he6
          obtain ⟨a6, c6, rfl⟩ := own_sh ho6
          have hbk : Z6.heap[bb]? = some (.cells #[.slice a1 (N + 1) c1, .slice a2 (N + 1) c2, .slice ba N bc, .slice ca N cc] 34 (0, 0)) := hk6.obj HP5.out.b.blk (own_bb HP5.out.b.b HP5.out.b.blk (by decide))
          have Hbk : Hid (Z6.heap[bb]? = some (.cells #[.slice a1 (N + 1) c1, .slice a2 (N + 1) c2, .slice ba N bc, .slice ca N cc] 34 (0, 0))) := hbk
          have HP6 : Hid (Pst w (Z6.setCell ⟨bb, 2, none⟩ (.slice a6 (N + 1) c6)) B bb P (.slice a1 (N + 1) c1) (.slice a2 (N + 1) c2) (.slice a6 (N + 1) c6) (.slice ca N cc) (N + 1) (N + 1) (N + 1) N (e9 Be.src es ++ [.int .i64 sr]) (e9 Be.dst es ++ [.int .i64 ds]) (es.map Be.v ++ [.slice a3 n c3]) (es.map fun e => .bool e.come)) := HP5.out.putB ho6 hk6 he6
          have HOz : Hid (Z6.ownsRow Vd.heap.size 5 1 (.slice a3 n c3) n (byl bs)) := own_keptT (own_still HO.out B5.out) HP5.out.b.b hk6 (by decide)
          have HO6 : Hid ((Z6.setCell ⟨bb, 2, none⟩ (.slice a6 (N + 1) c6)).ownsRow Vd.heap.size 5 1 (.slice a3 n c3) n (byl bs)) := own_set HOz.out (own_bb HOz.out hbk (by decide))
          have HF6 : Hid (Fam B 5 1 (Z6.setCell ⟨bb, 2, none⟩ (.slice a6 (N + 1) c6)) N (fun i => (es.getD i e0).v) (fun i => (es.getD i e0).bs.length) (fun i => byl (es.getD i e0).bs)) := ((HFd.out.still B4.out).still B5.out).thru HP5.out.b.b (by decide) hk6 hbk
          clear ho6 hk6 he6 hbk
          refine hK.out _ _ trivial (fun hHeld => ?_)
          clear hK K
          try (simp only [Act.put, List.getElem_toArray, List.getElem_cons_zero, List.getElem_cons_succ, List.setIfInBounds_toArray, List.set_cons_zero, List.set_cons_succ])
          refine wpAnyH_take (i := 10) (v := .pointer (some ⟨bb, 0, none⟩)) rfl (by kernel_rfl) (by kernel_rfl) (by kernel_rfl) (fun _ _ _ h => h) (Or.inl ⟨by rfl, fun w' hS => by go_simp⟩) hHeld ?_
          simp only [Act.put, List.getElem_toArray, List.getElem_cons_zero, List.getElem_cons_succ, List.setIfInBounds_toArray, List.set_cons_zero, List.set_cons_succ]
          refine wpAnyH_take (i := 11) (v := .pointer (some ⟨bb, 2, none⟩)) rfl (by kernel_rfl) (by kernel_rfl) (by kernel_rfl) (fun _ _ _ h => h) (Or.inl ⟨by rfl, fun w' hS => by go_simp⟩) hHeld ?_
          simp only [Act.put, List.getElem_toArray, List.getElem_cons_zero, List.getElem_cons_succ, List.setIfInBounds_toArray, List.set_cons_zero, List.set_cons_succ]
          refine wpAnyH_ready (rs := [12]) (by kernel_rfl) (by simp) ?_
          refine AllReadyH.cons rfl (fun K hK => ?_) AllReadyH.nil
          refine step_stS rfl 31 _ _ rfl (g := bb) (p := 2) rfl rfl Hbk.out (show 2 < 4 from by omega) oneTB rfl ?_
          refine hK.out _ _ trivial (fun hHeld => ?_)
          clear hK K
          try (simp only [Act.put, List.getElem_toArray, List.getElem_cons_zero, List.getElem_cons_succ, List.setIfInBounds_toArray, List.set_cons_zero, List.set_cons_succ])
          refine wpAnyH_done (by kernel_rfl) ?_ _
          clear hHeld
          go_wp2
          go_meet
          exact ⟨rfl, a6, c6, a3, c3, HP6.out, own_lower HO6.out Hsz.out, HF6.out⟩
  case rest =>
  obtain ⟨rfl, a6, c6, a3, c3, hp, ho, hf⟩ := hcut
  generalize wc = V3 at *
  have HP3 : Hid (Pst w V3 B bb P (.slice a1 (N + 1) c1) (.slice a2 (N + 1) c2) (.slice a6 (N + 1) c6) (.slice ca N cc) (N + 1) (N + 1) (N + 1) N (e9 Be.src es ++ [.int .i64 sr]) (e9 Be.dst es ++ [.int .i64 ds]) (es.map Be.v ++ [.slice a3 n c3]) (es.map fun e => .bool e.come)) := hp
  have HO3 : Hid (V3.ownsRow V2.heap.size 5 1 (.slice a3 n c3) n (byl bs)) := ho
  have HF3 : Hid (Fam B 5 1 V3 N (fun i => (es.getD i e0).v) (fun i => (es.getD i e0).bs.length) (fun i => byl (es.getD i e0).bs)) := hf
  have HF2o : Hid (Fam B 5 1 V2 N (fun i => (es.getD i e0).v) (fun i => (es.getD i e0).bs.length) (fun i => byl (es.getD i e0).bs)) := HF2.out
  have Hz2 : Hid (w.heap.size ≤ V2.heap.size) := HP2.out.k.size
  clear hp ho hf HP2 HF2
  have q3 : V3.cell? ⟨bb, 3, none⟩ = some (.slice ca N cc) := blk_cell HP3.out.b.blk 3
  go_upto_region 5 with (first
    | (refine wl_bsl rfl 32 4 1 _ rfl Try.underlying32 #[.bool false] (bsl_eq (by kernel_rfl) (bB1 false)) ?_; intro Z4 kz4 bz4 sz4; have KZ4 : Hid (Z4.heap[V3.heap.size]? = some (.cells #[.bool false] 4 (0, 0))) := kz4; have BZ4 : Hid (Below V3.heap.size V3 Z4) := bz4; clear kz4 bz4 sz4; have HPz4 := HP3.out.still BZ4.out)
    | (refine app_g rfl _ _ 32 rfl B 4 ci (.bool false) 1 1 Try.underlying32 chi chz0 chz1 chz2 rfl (by omega) (.slice ca N cc) N (es.map fun e => .bool e.come) rfl HPz4.b.c (some ⟨V3.heap.size, 0, none⟩) 1 1 [.bool false] rfl (fun h => by cases h) rfl (fun ad had j u hu => by cases had; rw [Addr.add_lit, Nat.zero_add, blk_cell KZ4.out]; simpa using hu) (oneV _ rfl) (by unfold maxLen; omega) (by omega) (Nat.le_trans HPz4.h HPz4.k.size) ?_; intro v4 Y4 ho4 hk4 hob4; obtain ⟨a4, c4, rfl⟩ := own_sh ho4.out; have hbk4 : Y4.heap[bb]? = some (.cells _ 34 (0, 0)) := hk4.out.obj HPz4.b.blk (own_bb HPz4.b.c HPz4.b.blk (by decide)))
    | (refine wl_stS rfl 32 _ _ rfl (g := bb) (p := 3) rfl rfl hbk4 (show 3 < 4 from by omega) oneTC rfl ?_)
    | fail)
  have HP4 : Hid (Pst w (Y4.setCell ⟨bb, 3, none⟩ (.slice a4 (N + 1) c4)) B bb P (.slice a1 (N + 1) c1) (.slice a2 (N + 1) c2) (.slice a6 (N + 1) c6) (.slice a4 (N + 1) c4) (N + 1) (N + 1) (N + 1) (N + 1) (e9 Be.src es ++ [.int .i64 sr]) (e9 Be.dst es ++ [.int .i64 ds]) (es.map Be.v ++ [.slice a3 n c3]) ((es.map fun e => .bool e.come) ++ [.bool false])) := HPz4.putC ho4.out hk4.out hob4.out
  have HF4 : Hid (Fam B 5 1 (Y4.setCell ⟨bb, 3, none⟩ (.slice a4 (N + 1) c4)) N (fun i => (es.getD i e0).v) (fun i => (es.getD i e0).bs.length) (fun i => byl (es.getD i e0).bs)) := (HF3.out.still BZ4.out).thru HPz4.b.c (by decide) hk4.out hbk4
  have HO4 : Hid ((Y4.setCell ⟨bb, 3, none⟩ (.slice a4 (N + 1) c4)).ownsRow V2.heap.size 5 1 (.slice a3 n c3) n (byl bs)) := (show World.ownsRow _ _ _ _ _ _ _ from by
    have h1 := own_keptT (own_still HO3.out BZ4.out) HPz4.b.c hk4.out (by decide)
    exact own_set h1 (own_bb h1 hbk4 (by decide)))
  generalize Y4.setCell ⟨bb, 3, none⟩ (.slice a4 (N + 1) c4) = V4 at *
  clear HPz4 ho4 hk4 hob4 hbk4 KZ4 BZ4 HP3 HF3 HO3 q3
  have q4 : V4.cell? ⟨bb, 0, none⟩ = some (.slice a1 (N + 1) c1) := blk_cell HP4.out.b.blk 0
  go_wp2
  go_ret
  have hl : (es ++ [(⟨sr, ds, a3, c3, bs, false⟩ : Be)]).length = N + 1 := by rw [List.length_append, HN.out]; rfl
  have hg : ∀ i, (es ++ [(⟨sr, ds, a3, c3, bs, false⟩ : Be)]).getD i e0 = if i = N then ⟨sr, ds, a3, c3, bs, false⟩ else es.getD i e0 := fun i => by
    have hN := HN.out
    by_cases e : i = N
    · rw [if_pos e]
      subst e
      simp [List.getD, List.getElem?_append, ← hN]
    · rw [if_neg e]
      by_cases e2 : i < N
      · simp [List.getD, List.getElem?_append, show i < es.length by omega]
      · rw [List.getD, List.getElem?_eq_none (by rw [hl]; omega), List.getD, List.getElem?_eq_none (by omega)]
  refine ⟨_, rfl, ?_, .slice a1 (N + 1) c1, .slice a2 (N + 1) c2, .slice a6 (N + 1) c6, .slice a4 (N + 1) c4, a3, c3, ⟨?_, ?_, fun i j => ?_⟩, HP4.out.k, HP4.out.p, fun j hj => ?_⟩
  · simp
    try omega
  · have := HP4.out.b
    rw [hl]
    simpa [e9, Be.v, hbl] using this
  · rw [hl]
    have := HF2o.out.snoc (v' := .slice a3 n c3) (m' := n) (l' := byl bs) (B2 := V2.heap.size) (Nat.le_refl _) (Nat.le_trans hB Hz2.out) HF4.out HO4.out
    refine this.congr (fun i hi => ?_)
    rw [hg i]
    unfold updF
    by_cases e : i = N
    · simp only [if_pos e]
      exact ⟨by rw [← hbl]; rfl, by first | exact hbl | trivial, by first | rfl | trivial⟩
    · simp only [if_neg e]
      exact ⟨by first | rfl | trivial, by first | rfl | trivial, by first | rfl | trivial⟩
  · rw [hg i]
    split
    · exact hb255 j
    · exact HR.out i j
  · rw [hbl] at hj
    have := (World.ownsRow.lt HO4.out j hj).1
    have := Hz2.out
    omega
end
end Go.Proofs.Ytnhhjelplmdloaa.Et
