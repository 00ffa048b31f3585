import Derived.Test.YthogcanfinjfdaaMf
namespace Go.Proofs.Ythogcanfinjfdaa.Et
open Go.RowKit Go.Maps
set_option linter.unusedVariables false
set_option linter.unusedSimpArgs false
set_option maxRecDepth 100000
section
variable {R R' : Rn} {w w' W : World} {B : Nat}
theorem way_is (h : R.Ok w B) (hA : R.all.length ≤ 2199023255552) : Calls Try.prog 92 #[.pointer (some ⟨R.b, 0, none⟩)] w fun e w' => ∃ a c, e = .returned (.slice a (live R).length c) ∧ w'.ownsRow w.heap.size 3 1 (.slice a (live R).length c) (live R).length (intsOf (live R)) ∧ Below w.heap.size w w' := (way_any h hA).mono fun e w2 ⟨v, x1, x2, x3⟩ => by
    obtain ⟨av, cv, hv⟩ := own_shape (B' := 0) x2
    subst hv
    exact ⟨av, cv, x1, x2, x3⟩

set_option maxHeartbeats 400000 in
theorem rpost_arg (h : R.Ok w B) (p q : Int) (ao : Option Addr) (n c : Nat) (lv : Bool) (hno : rP R p q = false ∨ 40000 < n) : Calls Try.prog 89 #[.pointer (some ⟨R.b, 0, none⟩), .int .i64 p, .int .i64 q, .slice ao n c, .bool lv] w fun e w' => e = .returned (.tuple #[.int .i64 0, .int .i64 1]) ∧ w = w' := by
  have HP := rpath_any h p q
  clear h
  generalize rP R p q = r at HP hno
  go_enter Try.func89, Try.ntmps89
  rcases hno with rfl | hno
  · go_wp2_with (first | (go_at_call 88; refine HP.mono ?_; rintro e w1 ⟨rfl, rfl⟩) | fail)
    all_goals (go_ret2; exact ⟨rfl, rfl⟩)
  · have i1 : (40000 : Int) < (n : Int) := by omega
    cases r
    all_goals
      go_wp2_with (first | (go_at_call 88; refine HP.mono ?_; rintro e w1 ⟨rfl, rfl⟩) | fail)
      all_goals (go_ret2; exact ⟨rfl, rfl⟩)

set_option maxHeartbeats 400000 in
theorem rpost_down (h : R.Ok w B) (p q : Nat) (ao : Option Addr) (n c : Nat) (hp : p < R.nn) (hq : q < R.nn) (hne : p ≠ q) (hn : n ≤ 40000) (hu : R.up p = false) : Calls Try.prog 89 #[.pointer (some ⟨R.b, 0, none⟩), .int .i64 p, .int .i64 q, .slice ao n c, .bool true] w fun e w' => e = .returned (.tuple #[.int .i64 0, .int .i64 32]) ∧ w = w' := by
  have HP := rpath_is h (rP_nat hp hq hne)
  have hn16 := h.n16
  obtain ⟨d0, _, _⟩ := h.cup (p := p) (by omega)
  rw [hu] at d0
  have i1 : (n : Int) ≤ 40000 := by omega
  have i2 : (p : Int) < 16 := by omega
  clear h
  go_enter Try.func89, Try.ntmps89
  go_wp2_with (first | (go_at_call 88; refine HP.mono ?_; rintro e w1 ⟨rfl, rfl⟩) | fail)
  all_goals (go_ret2; exact ⟨rfl, rfl⟩)

set_option maxHeartbeats 400000 in
theorem rpost_cut (h : R.Ok w B) (p q : Nat) (ao : Option Addr) (n c : Nat) (lv : Bool) (hp : p < R.nn) (hq : q < R.nn) (hne : p ≠ q) (hn : n ≤ 40000) (hu : lv = false ∨ R.up p = true) (hs : R.shut p q = true) : Calls Try.prog 89 #[.pointer (some ⟨R.b, 0, none⟩), .int .i64 p, .int .i64 q, .slice ao n c, .bool lv] w fun e w' => e = .returned (.tuple #[.int .i64 0, .int .i64 30]) ∧ w = w' := by
  have HP := rpath_is h (rP_nat hp hq hne)
  have hn16 := h.n16
  obtain ⟨d0, _, _⟩ := h.cup (p := p) (by omega)
  obtain ⟨d1, _⟩ := h.csh (p := p) (q := q) (by omega) (by omega)
  rw [hs] at d1
  have i1 : (n : Int) ≤ 40000 := by omega
  have i2 : (p : Int) < 16 := by omega
  have i3 : (q : Int) < 16 := by omega
  clear h
  generalize R.up p = U at d0 hu
  cases lv
  · go_enter Try.func89, Try.ntmps89
    go_wp2_with (first | (go_at_call 88; refine HP.mono ?_; rintro e w1 ⟨rfl, rfl⟩) | fail)
    all_goals (go_ret2; exact ⟨rfl, rfl⟩)
  · obtain rfl : U = true := by simpa using hu
    go_enter Try.func89, Try.ntmps89
    go_wp2_with (first | (go_at_call 88; refine HP.mono ?_; rintro e w1 ⟨rfl, rfl⟩) | fail)
    all_goals (go_ret2; exact ⟨rfl, rfl⟩)

set_option maxHeartbeats 400000 in
theorem rpost_room (h : R.Ok w B) (hA : R.all.length ≤ 2199023255551) (p q : Nat) (ao : Option Addr) (n c : Nat) (lv : Bool) (hp : p < R.nn) (hq : q < R.nn) (hne : p ≠ q) (hn : n ≤ 40000) (hu : lv = false ∨ R.up p = true) (hs : R.shut p q = false) (hl : R.room ≤ (live R).length) : Calls Try.prog 89 #[.pointer (some ⟨R.b, 0, none⟩), .int .i64 p, .int .i64 q, .slice ao n c, .bool lv] w fun e w' => e = .returned (.tuple #[.int .i64 0, .int .i64 31]) ∧ Below w.heap.size w w' := by
  have HP := rpath_is h (rP_nat hp hq hne)
  have HW := way_is h (by omega)
  have Hh : Hid (R.Ok w B) := h
  have hn16 := h.n16
  obtain ⟨d0, _, _⟩ := h.cup (p := p) (by omega)
  obtain ⟨d1, _⟩ := h.csh (p := p) (q := q) (by omega) (by omega)
  rw [hs] at d1
  have i1 : (n : Int) ≤ 40000 := by omega
  have i2 : (p : Int) < 16 := by omega
  have i3 : (q : Int) < 16 := by omega
  clear h
  generalize R.up p = U at d0 hu
  generalize (live R).length = N at HW hl
  cases lv
  · go_enter Try.func89, Try.ntmps89
    go_wp2_with (first | (go_at_call 88; refine HP.mono ?_; rintro e w1 ⟨rfl, rfl⟩) | (go_at_call 92; refine HW.mono ?_; rintro e w1 ⟨a, c, rfl, ho, hb⟩; have t1 := (Hh.out.still hb).c1) | fail)
    all_goals (go_ret2; exact ⟨rfl, hb⟩)
  · obtain rfl : U = true := by simpa using hu
    go_enter Try.func89, Try.ntmps89
    go_wp2_with (first | (go_at_call 88; refine HP.mono ?_; rintro e w1 ⟨rfl, rfl⟩) | (go_at_call 92; refine HW.mono ?_; rintro e w1 ⟨a, c, rfl, ho, hb⟩; have t1 := (Hh.out.still hb).c1) | fail)
    all_goals (go_ret2; exact ⟨rfl, hb⟩)

set_option maxHeartbeats 1600000 in
theorem rpost_ok (h : R.Ok w B) (hB : B ≤ w.heap.size) (hA : R.all.length ≤ 2199023255551) (p q : Nat) (ao : Option Addr) (n c : Nat) (bs : List Int) (hr : Rd w ao n c bs) (lv : Bool) (hp : p < R.nn) (hq : q < R.nn) (hne : p ≠ q) (hn : n ≤ 40000) (hu : lv = false ∨ R.up p = true) (hs : R.shut p q = false) (hl : (live R).length < R.room) : Calls Try.prog 89 #[.pointer (some ⟨R.b, 0, none⟩), .int .i64 p, .int .i64 q, .slice ao n c, .bool lv] w fun e w' => e = .returned (.tuple #[.int .i64 (R.all.length + 1), .int .i64 0]) ∧ ∃ g a va vc, Rtep w w' R { R with va := va, vc := vc, all := R.all ++ [⟨⟨R.all.length + 1, p, q, wrap64 (R.now + R.slow p q), a, n, g, bs⟩, false⟩] } B := by
  have HP := rpath_is h (rP_nat hp hq hne)
  have HW := way_is h (by omega)
  have HN : Hid (∀ w1, Below w.heap.size w w1 → ∀ d, d = wrap64 (R.now + R.slow p q) → Calls Try.prog 96 #[.pointer (some ⟨R.b, 0, none⟩), .int .i64 p, .int .i64 q, .int .i64 d, .slice ao n c] w1 fun e w' => e = .returned (.int .i64 (R.all.length + 1)) ∧ ∃ g a va vc, Rtep w w' R { R with va := va, vc := vc, all := R.all ++ [⟨⟨R.all.length + 1, p, q, wrap64 (R.now + R.slow p q), a, n, g, bs⟩, false⟩] } B) := fun w1 hb d hd => by
    subst hd
    exact (put_any (h.still hb) (Nat.le_trans hB hb.size) p q (wrap64 (R.now + R.slow p q)) ao n c bs (hr.still hb) hn hA ⟨p, q, rfl, rfl, hp, hq, hne⟩).mono fun e w2 ⟨x1, g, a, va, vc, x2⟩ => ⟨x1, g, a, va, vc, Rtep.pre hb x2⟩
  have Hh : Hid (R.Ok w B) := h
  have hn16 := h.n16
  obtain ⟨d0, _, _⟩ := h.cup (p := p) (by omega)
  obtain ⟨d1, _⟩ := h.csh (p := p) (q := q) (by omega) (by omega)
  rw [hs] at d1
  have i1 : (n : Int) ≤ 40000 := by omega
  have i2 : (p : Int) < 16 := by omega
  have i3 : (q : Int) < 16 := by omega
  clear h hr
  generalize R.up p = U at d0 hu
  generalize (live R).length = N at HW hl
  cases lv
  · go_enter Try.func89, Try.ntmps89
    go_wp2_with (first | (go_at_call 88; refine HP.mono ?_; rintro e w1 ⟨rfl, rfl⟩) | (go_at_call 92; refine HW.mono ?_; rintro e w1 ⟨a, c, rfl, ho, hb⟩; have t1 := (Hh.out.still hb).c1; have t2 := (Hh.out.still hb).c2; obtain ⟨_, t3⟩ := (Hh.out.still hb).csh (p := p) (q := q) (by omega) (by omega)) | fail)
    go_region_law (go_simp; go_at_call 96; refine (HN.out _ (by first | exact hb | exact hb.drew) _ (by first | with_reducible rfl | exact (wrap_eq _).symm)).mono ?_; rintro e w2 ⟨rfl, g, a, va, vc, hst⟩)
    all_goals (go_wp2; go_ret2; exact ⟨rfl, g, a, va, vc, hst⟩)
  · obtain rfl : U = true := by simpa using hu
    go_enter Try.func89, Try.ntmps89
    go_wp2_with (first | (go_at_call 88; refine HP.mono ?_; rintro e w1 ⟨rfl, rfl⟩) | (go_at_call 92; refine HW.mono ?_; rintro e w1 ⟨a, c, rfl, ho, hb⟩; have t1 := (Hh.out.still hb).c1; have t2 := (Hh.out.still hb).c2; obtain ⟨_, t3⟩ := (Hh.out.still hb).csh (p := p) (q := q) (by omega) (by omega)) | fail)
    go_region_law (go_simp; go_at_call 96; refine (HN.out _ (by first | exact hb | exact hb.drew) _ (by first | with_reducible rfl | exact (wrap_eq _).symm)).mono ?_; rintro e w2 ⟨rfl, g, a, va, vc, hst⟩)
    all_goals (go_wp2; go_ret2; exact ⟨rfl, g, a, va, vc, hst⟩)
end
end Go.Proofs.Ythogcanfinjfdaa.Et
namespace Go.Proofs.Ythogcanfinjfdaa.Et
open Go.RowKit Go.Maps
set_option linter.unusedVariables false
set_option linter.unusedSimpArgs false
set_option maxRecDepth 100000
section
variable {R R' : Rn} {w w' W : World} {B : Nat}
theorem pkCells_set (fs : List Px) (k : Nat) (hk : k < fs.length) (f' : Px) (j : Nat) (hj : j < 6) (v : Value) (h : f'.cs = (fs.getD k p0).cs.set j v) : pkCells (fs.set k f') = (pkCells fs).set (k * 6 + j) v := by
  induction fs generalizing k with
  | nil => simp at hk
  | cons f fs ih =>
    have hl : f.cs.length = 6 := rfl
    cases k with
    | zero =>
      simp only [List.set_cons_zero, pkCells, List.flatMap_cons, Nat.zero_mul, Nat.zero_add]
      rw [List.set_append_left _ _ (by rw [hl]; exact hj)]
      simp at h
      simp [h]
    | succ k =>
      have := ih k (by simpa using hk) (by simpa using h)
      simp only [pkCells, List.set_cons_succ, List.flatMap_cons] at this ⊢
      rw [this, List.set_append_right _ _ (by rw [hl]; omega), hl, show (k + 1) * 6 + j - 6 = k * 6 + j by omega]
theorem pmem_set {fs : List Px} {k : Nat} {f' f : Px} (h : f ∈ fs.set k f') : f = f' ∨ f ∈ fs := by
  rcases List.mem_or_eq_of_mem_set h with h | h
  · exact .inr h
  · exact .inl h
theorem pmem_getD {fs : List Px} {k : Nat} (hk : k < fs.length) : fs.getD k p0 ∈ fs := by
  simp [List.getD, hk]
theorem pgetD_f {fs : List Px} {k : Nat} (hk : k < fs.length) : (fs.map Px.f).getD k f0 = (fs.getD k p0).f := by
  simp [List.getD, hk]

theorem Rtep.one (h : R.Ok w B) (k : Nat) (hk : k < R.all.length) (g : Nat) (hva : R.va = some ⟨g, 0, none⟩) (p' : Px) (j : Nat) (hj : j < 6) (v : Value) (hc : p'.cs = (R.all.getD k p0).cs.set j v) (hv : p'.f.v = (R.all.getD k p0).f.v) (hby : ∀ W, (R.all.getD k p0).f.byt W B → p'.f.byt W B) (hs : p'.f.src = (R.all.getD k p0).f.src) (hd : p'.f.dst = (R.all.getD k p0).f.dst) :
    Rtep w (w.setCell ⟨g, k * 6 + j, none⟩ v) R { R with all := R.all.set k p' } B := by
  obtain ⟨cs, hblk⟩ := h.blk
  have hvo : (Value.slice R.va R.all.length R.vc).ownBlock = some g := by rw [hva]; rfl
  have hgr := h.row_ne hvo
  have k1 : Kept w (w.setCell ⟨g, k * 6 + j, none⟩ v) (fun j => j = g) := kset w g _ _ rfl
  have hmp : ((R.all.set k p').map Px.f).map Fx.v = (R.all.map Px.f).map Fx.v := by
    rw [List.map_set]
    exact set_map (by simpa using hk) (by rw [pgetD_f hk]; exact hv)
  have hrow := h.row
  rw [hva] at hrow
  have hst := (World.ownsRow.stored hrow (k * 6 + j) v).1
  rw [← pkCells_set R.all k hk p' j hj v hc] at hst
  refine ⟨⟨⟨cs, ?_⟩, ?_, ?_, ?_, h.ge, h.n16, ?_⟩, ?_, ?_⟩
  · have := hblk.keep k1 (fun e => hgr e.symm)
    exact ⟨this.blk, this.sz, this.c0, this.c1, this.c2, this.up, this.inc, this.tick, this.shut, this.slow, by simp only [List.length_set]; exact this.c563⟩
  · simp only [List.length_set, hva]
    exact hst
  · intro f hf
    rcases pmem_set hf with rfl | hf
    · exact hby _ ((h.byt _ (pmem_getD hk)).keep k1 (fun j hj e => (h.byt_ne (pmem_getD hk) hj).2 (by rw [e]; exact hvo)))
    · exact (h.byt f hf).keep k1 (fun j hj e => (h.byt_ne hf hj).2 (by rw [e]; exact hvo))
  · exact apt_same hmp h.apt
  · intro f hf
    rcases pmem_set hf with rfl | hf
    · rw [hs, hd]; exact h.pth _ (pmem_getD hk)
    · exact h.pth f hf
  · exact k1.mono (fun j _ e => .inr (.inl (by rw [e]; exact hvo)))
  · intro i hi
    left
    rcases hi with e | e | ⟨x, hx, e⟩
    · exact .inl e
    · exact .inr (.inl (by simpa using e))
    · rcases pmem_set hx with rfl | hx
      · exact .inr (.inr ⟨_, pmem_getD hk, by rw [← hv]; exact e⟩)
      · exact .inr (.inr ⟨x, hx, e⟩)

theorem Rtep.gone (h : R.Ok w B) (k : Nat) (hk : k < R.all.length) (g : Nat) (hva : R.va = some ⟨g, 0, none⟩) (x : Bool) : Rtep w (w.setCell ⟨g, k * 6 + 5, none⟩ (.bool x)) R { R with all := R.all.set k { (R.all.getD k p0) with gone := x } } B :=
  Rtep.one h k hk g hva _ 5 (by omega) _ rfl rfl (fun _ h => h) rfl rfl
theorem Rtep.due (h : R.Ok w B) (k : Nat) (hk : k < R.all.length) (g : Nat) (hva : R.va = some ⟨g, 0, none⟩) (x : Int) : Rtep w (w.setCell ⟨g, k * 6 + 3, none⟩ (.int .i64 x)) R { R with all := R.all.set k { (R.all.getD k p0) with f := { (R.all.getD k p0).f with due := x } } } B :=
  Rtep.one h k hk g hva _ 3 (by omega) _ rfl rfl (fun _ h => h) rfl rfl

theorem turned_tbl : ((List.range 256).all fun c => (List.range 8).all fun k => decide (flipB (c : Int) k = if ((c : Int) / 2 ^ k) % 2 = 1 then (c : Int) - 2 ^ k else (c : Int) + 2 ^ k)) = true := by kernel_rfl
theorem turned_is (c : Int) (k : Nat) (h0 : 0 ≤ c) (h1 : c ≤ 255) (hk : k < 8) : flipB c k = if (c / 2 ^ k) % 2 = 1 then c - 2 ^ k else c + 2 ^ k := by
  obtain ⟨n, rfl⟩ : ∃ n : Nat, c = n := ⟨c.toNat, by omega⟩
  have h2 := List.all_eq_true.1 turned_tbl n (List.mem_range.2 (by omega))
  exact of_decide_eq_true (List.all_eq_true.1 h2 k (List.mem_range.2 hk))
end
end Go.Proofs.Ythogcanfinjfdaa.Et
namespace Go.Proofs.Ythogcanfinjfdaa.Et
open Go.RowKit Go.Maps
set_option linter.unusedVariables false
set_option linter.unusedSimpArgs false
set_option maxRecDepth 100000
section
variable {R R' : Rn} {w w' W : World} {B : Nat}
theorem wrap_u8 {x : Int} (h0 : 0 ≤ x) (h1 : x ≤ 255) : IntKind.u8.wrap x = x := by
  simp only [IntKind.wrap, IntKind.bits, IntKind.signed]
  simp
  omega
set_option maxHeartbeats 1000000 in
theorem turned_any (c : Int) (k : Nat) (h0 : 0 ≤ c) (h1 : c ≤ 255) (hk : k < 8) : Calls Try.prog 98 #[.int .u8 c, .int .i64 k] w fun e w' => e = .returned (.int .u8 (flipB c k)) ∧ w = w' := by
  go_enter Try.func98, Try.ntmps98
  go_wp2
  go_loopw [5, 6] (fun x i wr => ∃ (j : Nat) (X : Int), j ≤ k ∧ i = .int .i64 j ∧ x = .int .u8 X ∧ X = 2 ^ j ∧ w = wr) (fun _ i _ => k - (intOf i).toNat)
  case atStart => exact ⟨0, 1, Nat.zero_le _, rfl, rfl, rfl, rfl⟩
  case round =>
    obtain ⟨j, X, hj, rfl, rfl, hX, rfl⟩ := hrel
    by_cases hlt : j < k
    · obtain rfl | rfl | rfl | rfl | rfl | rfl | rfl : j = 0 ∨ j = 1 ∨ j = 2 ∨ j = 3 ∨ j = 4 ∨ j = 5 ∨ j = 6 := by omega
      · have i1 : ((0 : Nat) : Int) < (k : Int) := by omega
        obtain rfl : X = 1 := hX
        go_wp2
        go_roundw
        case rel => exact ⟨1, 2, by omega, by go_num, by first | rfl | go_num, rfl, by first | rfl | trivial⟩
        case measure => simp [intOf]; omega
      · have i1 : ((1 : Nat) : Int) < (k : Int) := by omega
        obtain rfl : X = 2 := hX
        go_wp2
        go_roundw
        case rel => exact ⟨2, 4, by omega, by go_num, by first | rfl | go_num, rfl, by first | rfl | trivial⟩
        case measure => simp [intOf]; omega
      · have i1 : ((2 : Nat) : Int) < (k : Int) := by omega
        obtain rfl : X = 4 := hX
        go_wp2
        go_roundw
        case rel => exact ⟨3, 8, by omega, by go_num, by first | rfl | go_num, rfl, by first | rfl | trivial⟩
        case measure => simp [intOf]; omega
      · have i1 : ((3 : Nat) : Int) < (k : Int) := by omega
        obtain rfl : X = 8 := hX
        go_wp2
        go_roundw
        case rel => exact ⟨4, 16, by omega, by go_num, by first | rfl | go_num, rfl, by first | rfl | trivial⟩
        case measure => simp [intOf]; omega
      · have i1 : ((4 : Nat) : Int) < (k : Int) := by omega
        obtain rfl : X = 16 := hX
        go_wp2
        go_roundw
        case rel => exact ⟨5, 32, by omega, by go_num, by first | rfl | go_num, rfl, by first | rfl | trivial⟩
        case measure => simp [intOf]; omega
      · have i1 : ((5 : Nat) : Int) < (k : Int) := by omega
        obtain rfl : X = 32 := hX
        go_wp2
        go_roundw
        case rel => exact ⟨6, 64, by omega, by go_num, by first | rfl | go_num, rfl, by first | rfl | trivial⟩
        case measure => simp [intOf]; omega
      · have i1 : ((6 : Nat) : Int) < (k : Int) := by omega
        obtain rfl : X = 64 := hX
        go_wp2
        go_roundw
        case rel => exact ⟨7, 128, by omega, by go_num, by first | rfl | go_num, rfl, by first | rfl | trivial⟩
        case measure => simp [intOf]; omega
    · obtain rfl : j = k := by omega
      obtain rfl | rfl | rfl | rfl | rfl | rfl | rfl | rfl : j = 0 ∨ j = 1 ∨ j = 2 ∨ j = 3 ∨ j = 4 ∨ j = 5 ∨ j = 6 ∨ j = 7 := by omega
      · obtain rfl : X = 1 := hX
        by_cases hb : (c / 1) % 2 = 1
        · have e1 : flipB c 0 = c - 1 := (turned_is c 0 h0 h1 (by omega)).trans (if_pos hb)
          have hw : IntKind.u8.wrap (c - 1) = c - 1 := wrap_u8 (by omega) (by omega)
          go_wp2
          go_ret
          exact ⟨by rw [e1]; rfl, rfl⟩
        · have e1 : flipB c 0 = c + 1 := (turned_is c 0 h0 h1 (by omega)).trans (if_neg hb)
          have hw : IntKind.u8.wrap (c + 1) = c + 1 := wrap_u8 (by omega) (by omega)
          go_wp2
          go_ret
          exact ⟨by rw [e1]; rfl, rfl⟩
      · obtain rfl : X = 2 := hX
        by_cases hb : (c / 2) % 2 = 1
        · have e1 : flipB c 1 = c - 2 := (turned_is c 1 h0 h1 (by omega)).trans (if_pos hb)
          have hw : IntKind.u8.wrap (c - 2) = c - 2 := wrap_u8 (by omega) (by omega)
          go_wp2
          go_ret
          exact ⟨by rw [e1]; rfl, rfl⟩
        · have e1 : flipB c 1 = c + 2 := (turned_is c 1 h0 h1 (by omega)).trans (if_neg hb)
          have hw : IntKind.u8.wrap (c + 2) = c + 2 := wrap_u8 (by omega) (by omega)
          go_wp2
          go_ret
          exact ⟨by rw [e1]; rfl, rfl⟩
      · obtain rfl : X = 4 := hX
        by_cases hb : (c / 4) % 2 = 1
        · have e1 : flipB c 2 = c - 4 := (turned_is c 2 h0 h1 (by omega)).trans (if_pos hb)
          have hw : IntKind.u8.wrap (c - 4) = c - 4 := wrap_u8 (by omega) (by omega)
          go_wp2
          go_ret
          exact ⟨by rw [e1]; rfl, rfl⟩
        · have e1 : flipB c 2 = c + 4 := (turned_is c 2 h0 h1 (by omega)).trans (if_neg hb)
          have hw : IntKind.u8.wrap (c + 4) = c + 4 := wrap_u8 (by omega) (by omega)
          go_wp2
          go_ret
          exact ⟨by rw [e1]; rfl, rfl⟩
      · obtain rfl : X = 8 := hX
        by_cases hb : (c / 8) % 2 = 1
        · have e1 : flipB c 3 = c - 8 := (turned_is c 3 h0 h1 (by omega)).trans (if_pos hb)
          have hw : IntKind.u8.wrap (c - 8) = c - 8 := wrap_u8 (by omega) (by omega)
          go_wp2
          go_ret
          exact ⟨by rw [e1]; rfl, rfl⟩
        · have e1 : flipB c 3 = c + 8 := (turned_is c 3 h0 h1 (by omega)).trans (if_neg hb)
          have hw : IntKind.u8.wrap (c + 8) = c + 8 := wrap_u8 (by omega) (by omega)
          go_wp2
          go_ret
          exact ⟨by rw [e1]; rfl, rfl⟩
      · obtain rfl : X = 16 := hX
        by_cases hb : (c / 16) % 2 = 1
        · have e1 : flipB c 4 = c - 16 := (turned_is c 4 h0 h1 (by omega)).trans (if_pos hb)
          have hw : IntKind.u8.wrap (c - 16) = c - 16 := wrap_u8 (by omega) (by omega)
          go_wp2
          go_ret
          exact ⟨by rw [e1]; rfl, rfl⟩
        · have e1 : flipB c 4 = c + 16 := (turned_is c 4 h0 h1 (by omega)).trans (if_neg hb)
          have hw : IntKind.u8.wrap (c + 16) = c + 16 := wrap_u8 (by omega) (by omega)
          go_wp2
          go_ret
          exact ⟨by rw [e1]; rfl, rfl⟩
      · obtain rfl : X = 32 := hX
        by_cases hb : (c / 32) % 2 = 1
        · have e1 : flipB c 5 = c - 32 := (turned_is c 5 h0 h1 (by omega)).trans (if_pos hb)
          have hw : IntKind.u8.wrap (c - 32) = c - 32 := wrap_u8 (by omega) (by omega)
          go_wp2
          go_ret
          exact ⟨by rw [e1]; rfl, rfl⟩
        · have e1 : flipB c 5 = c + 32 := (turned_is c 5 h0 h1 (by omega)).trans (if_neg hb)
          have hw : IntKind.u8.wrap (c + 32) = c + 32 := wrap_u8 (by omega) (by omega)
          go_wp2
          go_ret
          exact ⟨by rw [e1]; rfl, rfl⟩
      · obtain rfl : X = 64 := hX
        by_cases hb : (c / 64) % 2 = 1
        · have e1 : flipB c 6 = c - 64 := (turned_is c 6 h0 h1 (by omega)).trans (if_pos hb)
          have hw : IntKind.u8.wrap (c - 64) = c - 64 := wrap_u8 (by omega) (by omega)
          go_wp2
          go_ret
          exact ⟨by rw [e1]; rfl, rfl⟩
        · have e1 : flipB c 6 = c + 64 := (turned_is c 6 h0 h1 (by omega)).trans (if_neg hb)
          have hw : IntKind.u8.wrap (c + 64) = c + 64 := wrap_u8 (by omega) (by omega)
          go_wp2
          go_ret
          exact ⟨by rw [e1]; rfl, rfl⟩
      · obtain rfl : X = 128 := hX
        by_cases hb : (c / 128) % 2 = 1
        · have e1 : flipB c 7 = c - 128 := (turned_is c 7 h0 h1 (by omega)).trans (if_pos hb)
          have hw : IntKind.u8.wrap (c - 128) = c - 128 := wrap_u8 (by omega) (by omega)
          go_wp2
          go_ret
          exact ⟨by rw [e1]; rfl, rfl⟩
        · have e1 : flipB c 7 = c + 128 := (turned_is c 7 h0 h1 (by omega)).trans (if_neg hb)
          have hw : IntKind.u8.wrap (c + 128) = c + 128 := wrap_u8 (by omega) (by omega)
          go_wp2
          go_ret
          exact ⟨by rw [e1]; rfl, rfl⟩
end
end Go.Proofs.Ythogcanfinjfdaa.Et
namespace Go.Proofs.Ythogcanfinjfdaa.Et
open Go.RowKit Go.Maps
set_option linter.unusedVariables false
set_option linter.unusedSimpArgs false
set_option maxRecDepth 100000
section
variable {R R' : Rn} {w w' W : World} {B : Nat}
set_option maxHeartbeats 400000 in
theorem rtake_none (h : R.Ok w B) (hA : R.all.length ≤ 2199023255551) (k : Int) (hk : atN R k < 0) : Calls Try.prog 84 #[.pointer (some ⟨R.b, 0, none⟩), .int .i64 k] w fun e w' => e = .returned (.tuple #[.agg f0.cs, .int .i64 34]) ∧ Below w.heap.size w w' := by
  generalize hW : w.alloc (.cells #[.int .i64 0, .int .i64 0, .int .i64 0, .int .i64 0, .slice none 0 0] 48) = W
  have hbW : Below w.heap.size w W := by rw [← hW]; exact balloc (Below.refl _ w)
  have hblk : W.heap[w.heap.size]? = some (.cells #[.int .i64 0, .int .i64 0, .int .i64 0, .int .i64 0, .slice none 0 0] 48 (0, 0)) := by rw [← hW]; exact heap_alloc_new w _
  have hWs : W.heap.size = w.heap.size + 1 := by rw [← hW]; simp
  have HW := at_any (h.still hbW) (by omega) k
  have Hb : Hid (Below w.heap.size w W) := hbW
  have HB : Hid (W.heap[w.heap.size]? = some (.cells #[.int .i64 0, .int .i64 0, .int .i64 0, .int .i64 0, .slice none 0 0] 48 (0, 0))) := hblk
  clear h hbW hblk
  generalize atN R k = i at HW hk
  go_enter Try.func84, Try.ntmps84
  go_wp2_with (first | (go_at_call 91; refine HW.mono ?_; rintro e w1 ⟨rfl, hb1⟩; have R1 : Hid (Below w.heap.size w w1) := (bstep Hb.out hb1); have HB1 : Hid (w1.heap[w.heap.size]? = some (.cells #[.int .i64 0, .int .i64 0, .int .i64 0, .int .i64 0, .slice none 0 0] 48 (0, 0))) := ((hb1.block _ (by omega)).trans HB.out); obtain ⟨e0, e1, e2, e3, e4⟩ := fl_cells HB1.out; obtain ⟨g0, g1, g2, g3, g4⟩ := fl_frz HB1.out) | fail)
  rw [put5_eq]
  obtain ⟨q0, q1, q2, q3, q4⟩ := fl_cells (put5_blk (.int .i64 0) (.int .i64 0) (.int .i64 0) (.int .i64 0) (.slice none 0 0) HB1.out)
  exact bodyPost_ret (v := .tuple #[.agg f0.cs, .int .i64 34]) (by simp [results, Try.results84, go_sem, q0, q1, q2, q3, q4, Fx.cs, f0]) rfl ⟨rfl, put5_below _ _ _ _ _ R1.out (Nat.le_refl _)⟩

def rbar (R : Rn) (p q : Nat) : Int := if R.shut p q then 30 else if R.up q then 0 else 32
set_option maxHeartbeats 400000 in
theorem rtake_bar (h : R.Ok w B) (hA : R.all.length ≤ 2199023255551) (k : Int) (i : Nat) (hk : atN R k = i) (hi : i < R.all.length) (p q : Nat) (hs : (R.all.getD i p0).f.src = p) (hd : (R.all.getD i p0).f.dst = q) (hp : p < R.nn) (hq : q < R.nn) (hb : rbar R p q ≠ 0) : Calls Try.prog 84 #[.pointer (some ⟨R.b, 0, none⟩), .int .i64 k] w fun e w' => e = .returned (.tuple #[.agg f0.cs, .int .i64 (rbar R p q)]) ∧ Below w.heap.size w w' := by
  generalize hW : w.alloc (.cells #[.int .i64 0, .int .i64 0, .int .i64 0, .int .i64 0, .slice none 0 0] 48) = W
  have hbW : Below w.heap.size w W := by rw [← hW]; exact balloc (Below.refl _ w)
  have hblk : W.heap[w.heap.size]? = some (.cells #[.int .i64 0, .int .i64 0, .int .i64 0, .int .i64 0, .slice none 0 0] 48 (0, 0)) := by rw [← hW]; exact heap_alloc_new w _
  have hWs : W.heap.size = w.heap.size + 1 := by rw [← hW]; simp
  have HW := at_any (h.still hbW) (by omega) k
  rw [hk] at HW
  have hn16 := h.n16
  have Hh : Hid (∀ w1, Below w.heap.size w w1 → w1.cell? ⟨R.b, 51 + p * 16 + q, none⟩ = some (.bool (R.shut p q)) ∧ w1.cell? ⟨R.b, 3 + q, none⟩ = some (.bool (R.up q))) := fun w1 hb => ⟨((h.still hb).csh (p := p) (q := q) (by omega) (by omega)).1, ((h.still hb).cup (p := q) (by omega)).1⟩
  obtain ⟨g, hva, _⟩ := h.prow hi
  have Hg : Hid (∀ w1, Below w.heap.size w w1 → w1.cell? ⟨R.b, 563, none⟩ = some (.slice (some ⟨g, 0, none⟩) R.all.length R.vc) ∧ w1.cell? ⟨g, i * 6, none⟩ = some (.int .i64 (R.all.getD i p0).f.id) ∧ w1.cell? ⟨g, i * 6 + 1, none⟩ = some (.int .i64 p) ∧ w1.cell? ⟨g, i * 6 + 2, none⟩ = some (.int .i64 q) ∧ w1.cell? ⟨g, i * 6 + 3, none⟩ = some (.int .i64 (R.all.getD i p0).f.due) ∧ w1.cell? ⟨g, i * 6 + 4, none⟩ = some (.slice (R.all.getD i p0).f.a (R.all.getD i p0).f.n (R.all.getD i p0).f.c)) := fun w1 hb => by
    obtain ⟨g', hg', xz, x0, x1, x2, x3, x4, x5⟩ := (h.still hb).prow hi
    obtain rfl : g = g' := by rw [hva] at hg'; simpa using hg'
    have c := (h.still hb).c563
    rw [hva] at c
    rw [hs] at x1
    rw [hd] at x2
    exact ⟨c, x0, x1, x2, x3, x4⟩
  have i1 : (0 : Int) ≤ (i : Int) := Int.natCast_nonneg _
  have i2 : (i : Int) < (R.all.length : Int) := by omega
  have i3 : (p : Int) < 16 := by omega
  have i4 : (q : Int) < 16 := by omega
  have Hb : Hid (Below w.heap.size w W) := hbW
  have HB : Hid (W.heap[w.heap.size]? = some (.cells #[.int .i64 0, .int .i64 0, .int .i64 0, .int .i64 0, .slice none 0 0] 48 (0, 0))) := hblk
  generalize hFi : (R.all.getD i p0).f = F at *
  clear h hbW hblk
  unfold rbar at hb ⊢
  generalize R.shut p q = S at *
  generalize R.up q = U at *
  go_enter Try.func84, Try.ntmps84
  cases S <;> cases U
  case false.true => simp at hb
  all_goals
    go_wp2_with (first | (go_at_call 91; refine HW.mono ?_; rintro e w1 ⟨rfl, hb1⟩; have R1 : Hid (Below w.heap.size w w1) := (bstep Hb.out hb1); have HB1 : Hid (w1.heap[w.heap.size]? = some (.cells #[.int .i64 0, .int .i64 0, .int .i64 0, .int .i64 0, .slice none 0 0] 48 (0, 0))) := ((hb1.block _ (by omega)).trans HB.out); obtain ⟨e0, e1, e2, e3, e4⟩ := fl_cells HB1.out; obtain ⟨g0, g1, g2, g3, g4⟩ := fl_frz HB1.out; obtain ⟨s1, s2⟩ := Hh.out _ R1.out; obtain ⟨c5, x0, x1, x2, x3, x4⟩ := Hg.out _ R1.out; have hsz1 := hb1.size; obtain ⟨s3, s4⟩ := Hh.out _ (balloc (o := .cells #[.int .i64 F.id, .int .i64 p, .int .i64 q, .int .i64 F.due, .slice F.a F.n F.c] 48) R1.out); obtain ⟨n0, n1, n2, n3, n4⟩ := fl_cells (heap_alloc_new w1 (.cells #[.int .i64 F.id, .int .i64 p, .int .i64 q, .int .i64 F.due, .slice F.a F.n F.c] 48))) | fail)
    go_quiet (fail)
    have hV : Below (w1.alloc (.cells #[.int .i64 F.id, .int .i64 p, .int .i64 q, .int .i64 F.due, .slice F.a F.n F.c] 48)).heap.size (w1.alloc (.cells #[.int .i64 F.id, .int .i64 p, .int .i64 q, .int .i64 F.due, .slice F.a F.n F.c] 48)) ((w1.alloc (.cells #[.int .i64 F.id, .int .i64 p, .int .i64 q, .int .i64 F.due, .slice F.a F.n F.c] 48)).drewN nq) := below_drewN (Below.refl _ _) nq
    have HF2 : Hid (((w1.alloc (.cells #[.int .i64 F.id, .int .i64 p, .int .i64 q, .int .i64 F.due, .slice F.a F.n F.c] 48)).drewN nq).heap[w1.heap.size]? = some (.cells #[.int .i64 F.id, .int .i64 p, .int .i64 q, .int .i64 F.due, .slice F.a F.n F.c] 48 (0, 0))) := (hV.block _ (by simp)).trans (heap_alloc_new w1 _)
    have HB2 : Hid (((w1.alloc (.cells #[.int .i64 F.id, .int .i64 p, .int .i64 q, .int .i64 F.due, .slice F.a F.n F.c] 48)).drewN nq).heap[w.heap.size]? = some (.cells #[.int .i64 0, .int .i64 0, .int .i64 0, .int .i64 0, .slice none 0 0] 48 (0, 0))) := (hV.block _ (by simp; omega)).trans (blk_alloc HB1.out)
    have R2 : Hid (Below w.heap.size w ((w1.alloc (.cells #[.int .i64 F.id, .int .i64 p, .int .i64 q, .int .i64 F.due, .slice F.a F.n F.c] 48)).drewN nq)) := bstep (balloc R1.out) hV
    clear hV e0 e1 e2 e3 e4 g0 g1 g2 g3 g4 s1 s2 s3 s4 x0 x1 x2 x3 x4 n0 n1 n2 n3 n4
    generalize (w1.alloc (.cells #[.int .i64 F.id, .int .i64 p, .int .i64 q, .int .i64 F.due, .slice F.a F.n F.c] 48)).drewN nq = V at HF2 HB2 R2 ⊢
    obtain ⟨e0, e1, e2, e3, e4⟩ := fl_cells HB2.out
    obtain ⟨g0, g1, g2, g3, g4⟩ := fl_frz HB2.out
    obtain ⟨n0, n1, n2, n3, n4⟩ := fl_cells HF2.out
    obtain ⟨s3, s4⟩ := Hh.out _ R2.out
    go_wp2
  rotate_left
  all_goals first
    | (rw [put5_eq]
       obtain ⟨q0, q1, q2, q3, q4⟩ := fl_cells (put5_blk (.int .i64 0) (.int .i64 0) (.int .i64 0) (.int .i64 0) (.slice none 0 0) HB2.out)
       exact bodyPost_ret (v := .tuple #[.agg f0.cs, .int .i64 30]) (by simp [results, Try.results84, go_sem, q0, q1, q2, q3, q4, Fx.cs, f0]) rfl ⟨rfl, put5_below _ _ _ _ _ R2.out (Nat.le_refl _)⟩)
    | skip
  go_quiet (fail)
  have hV : Below V.heap.size V (V.drewN nq) := below_drewN (Below.refl _ _) nq
  have HF3 : Hid ((V.drewN nq).heap[w1.heap.size]? = some (.cells #[.int .i64 F.id, .int .i64 p, .int .i64 q, .int .i64 F.due, .slice F.a F.n F.c] 48 (0, 0))) := (hV.block _ (lt_heap HF2.out)).trans HF2.out
  have HB3 : Hid ((V.drewN nq).heap[w.heap.size]? = some (.cells #[.int .i64 0, .int .i64 0, .int .i64 0, .int .i64 0, .slice none 0 0] 48 (0, 0))) := (hV.block _ (lt_heap HB2.out)).trans HB2.out
  have R3 : Hid (Below w.heap.size w (V.drewN nq)) := bstep R2.out hV
  clear hV e0 e1 e2 e3 e4 g0 g1 g2 g3 g4 s3 s4 n0 n1 n2 n3 n4
  generalize V.drewN nq = V2 at HF3 HB3 R3 ⊢
  obtain ⟨e0, e1, e2, e3, e4⟩ := fl_cells HB3.out
  obtain ⟨g0, g1, g2, g3, g4⟩ := fl_frz HB3.out
  obtain ⟨n0, n1, n2, n3, n4⟩ := fl_cells HF3.out
  obtain ⟨s3, s4⟩ := Hh.out _ R3.out
  go_wp2
  rw [put5_eq]
  obtain ⟨q0, q1, q2, q3, q4⟩ := fl_cells (put5_blk (.int .i64 0) (.int .i64 0) (.int .i64 0) (.int .i64 0) (.slice none 0 0) HB3.out)
  exact bodyPost_ret (v := .tuple #[.agg f0.cs, .int .i64 32]) (by simp [results, Try.results84, go_sem, q0, q1, q2, q3, q4, Fx.cs, f0]) rfl ⟨rfl, put5_below _ _ _ _ _ R3.out (Nat.le_refl _)⟩
end
end Go.Proofs.Ythogcanfinjfdaa.Et
namespace Go.Proofs.Ythogcanfinjfdaa.Et
open Go.RowKit Go.Maps
set_option linter.unusedVariables false
set_option linter.unusedSimpArgs false
set_option maxRecDepth 100000
section
variable {R R' : Rn} {w w' W : World} {B : Nat}
theorem Rtep.after {w3 w4 : World} (s : Rtep w w3 R R' B) (k : Kept w3 w4 (fun j => j = w.heap.size)) (hne : ¬ R'.own w.heap.size) : Rtep w w4 R R' B :=
  ⟨s.ok.keep k (fun j hj e => hne (e ▸ hj)), s.kept.step k (fun j hj => .inr (by omega)), s.own⟩

set_option maxHeartbeats 400000 in
theorem rtake_ok (h : R.Ok w B) (hB : B ≤ w.heap.size) (hA : R.all.length ≤ 2199023255551) (k : Int) (i : Nat) (hk : atN R k = i) (hi : i < R.all.length) (p q : Nat) (hs : (R.all.getD i p0).f.src = p) (hd : (R.all.getD i p0).f.dst = q) (hp : p < R.nn) (hq : q < R.nn) (hb : rbar R p q = 0) (hfn : (R.all.getD i p0).f.n ≤ 40000) : Calls Try.prog 84 #[.pointer (some ⟨R.b, 0, none⟩), .int .i64 k] w fun e w' => ∃ a c, e = .returned (.tuple #[.agg #[.int .i64 (R.all.getD i p0).f.id, .int .i64 p, .int .i64 q, .int .i64 (R.all.getD i p0).f.due, .slice a (R.all.getD i p0).f.n c], .int .i64 0]) ∧ w'.ownsRow w.heap.size 5 1 (.slice a (R.all.getD i p0).f.n c) (R.all.getD i p0).f.n ((R.all.getD i p0).f.bs.map (Value.int .u8)) ∧ Rtep w w' R { R with all := R.all.set i { (R.all.getD i p0) with gone := true } } B := by
  generalize hW : w.alloc (.cells #[.int .i64 0, .int .i64 0, .int .i64 0, .int .i64 0, .slice none 0 0] 48) = W
  have hbW : Below w.heap.size w W := by rw [← hW]; exact balloc (Below.refl _ w)
  have hblk : W.heap[w.heap.size]? = some (.cells #[.int .i64 0, .int .i64 0, .int .i64 0, .int .i64 0, .slice none 0 0] 48 (0, 0)) := by rw [← hW]; exact heap_alloc_new w _
  have hWs : W.heap.size = w.heap.size + 1 := by rw [← hW]; simp
  have HW := at_any (h.still hbW) (by omega) k
  rw [hk] at HW
  have hn16 := h.n16
  have Hh : Hid (∀ w1, Below w.heap.size w w1 → w1.cell? ⟨R.b, 51 + p * 16 + q, none⟩ = some (.bool (R.shut p q)) ∧ w1.cell? ⟨R.b, 3 + q, none⟩ = some (.bool (R.up q))) := fun w1 hb => ⟨((h.still hb).csh (p := p) (q := q) (by omega) (by omega)).1, ((h.still hb).cup (p := q) (by omega)).1⟩
  obtain ⟨g, hva, _⟩ := h.prow hi
  have Hg : Hid (∀ w1, Below w.heap.size w w1 → w1.cell? ⟨R.b, 563, none⟩ = some (.slice (some ⟨g, 0, none⟩) R.all.length R.vc) ∧ w1.cell? ⟨g, i * 6, none⟩ = some (.int .i64 (R.all.getD i p0).f.id) ∧ w1.cell? ⟨g, i * 6 + 1, none⟩ = some (.int .i64 p) ∧ w1.cell? ⟨g, i * 6 + 2, none⟩ = some (.int .i64 q) ∧ w1.cell? ⟨g, i * 6 + 3, none⟩ = some (.int .i64 (R.all.getD i p0).f.due) ∧ w1.cell? ⟨g, i * 6 + 4, none⟩ = some (.slice (R.all.getD i p0).f.a (R.all.getD i p0).f.n (R.all.getD i p0).f.c) ∧ w1.cell? ⟨g, i * 6 + 5, none⟩ = some (.bool (R.all.getD i p0).gone) ∧ w1.frozen? ⟨g, i * 6 + 5, none⟩ = false) := fun w1 hb => by
    obtain ⟨g', hg', xz, x0, x1, x2, x3, x4, x5⟩ := (h.still hb).prow hi
    obtain rfl : g = g' := by rw [hva] at hg'; simpa using hg'
    have c := (h.still hb).c563
    rw [hva] at c
    rw [hs] at x1
    rw [hd] at x2
    exact ⟨c, x0, x1, x2, x3, x4, x5, xz _⟩
  have i1 : (0 : Int) ≤ (i : Int) := Int.natCast_nonneg _
  have i2 : (i : Int) < (R.all.length : Int) := by omega
  have i3 : (p : Int) < 16 := by omega
  have i4 : (q : Int) < 16 := by omega
  have Hb : Hid (Below w.heap.size w W) := hbW
  have HB : Hid (W.heap[w.heap.size]? = some (.cells #[.int .i64 0, .int .i64 0, .int .i64 0, .int .i64 0, .slice none 0 0] 48 (0, 0))) := hblk
  have HS : Hid (∀ V, Below w.heap.size w V → Rtep V (V.setCell ⟨g, i * 6 + 5, none⟩ (.bool true)) R { R with all := R.all.set i { (R.all.getD i p0) with gone := true } } B) := fun V hV => Rtep.gone (h.still hV) i hi g hva true
  have Hw : Hid (∀ j, R.own j → j < w.heap.size) := fun j hj => h.ltOwn hj
  have hgw : g < w.heap.size := h.ltOwn (.inr (.inl (by rw [hva]; rfl)))
  have HM : Hid (({ (R.all.getD i p0) with gone := true } : Px) ∈ R.all.set i { (R.all.getD i p0) with gone := true }) := by
    show _ ∈ _
    rw [List.mem_iff_getElem]
    exact ⟨i, by simpa using hi, by simp⟩
  generalize hRR : ({ R with all := R.all.set i { (R.all.getD i p0) with gone := true } } : Rn) = RN at HS ⊢
  have HM2 : Hid (∀ w1, RN.Ok w1 B → (R.all.getD i p0).f.byt w1 B) := fun w1 h2 => by
    subst hRR
    exact (h2.byt { (R.all.getD i p0) with gone := true } HM.out :)
  clear HM hRR
  generalize (R.all.getD i p0).gone = GO at Hg
  generalize hFi : (R.all.getD i p0).f = F at *
  clear h hbW hblk
  unfold rbar at hb
  generalize R.shut p q = S at *
  generalize R.up q = U at *
  go_enter Try.func84, Try.ntmps84
  obtain rfl : S = false := by cases S <;> simp at hb ⊢
  obtain rfl : U = true := by cases U <;> simp at hb ⊢
  · skip
    go_wp2_with (first | (go_at_call 91; refine HW.mono ?_; rintro e w1 ⟨rfl, hb1⟩; have R1 : Hid (Below w.heap.size w w1) := (bstep Hb.out hb1); have HB1 : Hid (w1.heap[w.heap.size]? = some (.cells #[.int .i64 0, .int .i64 0, .int .i64 0, .int .i64 0, .slice none 0 0] 48 (0, 0))) := ((hb1.block _ (by omega)).trans HB.out); obtain ⟨e0, e1, e2, e3, e4⟩ := fl_cells HB1.out; obtain ⟨g0, g1, g2, g3, g4⟩ := fl_frz HB1.out; obtain ⟨s1, s2⟩ := Hh.out _ R1.out; obtain ⟨c5, x0, x1, x2, x3, x4, _, _⟩ := Hg.out _ R1.out; have hsz1 := hb1.size; obtain ⟨s3, s4⟩ := Hh.out _ (balloc (o := .cells #[.int .i64 F.id, .int .i64 p, .int .i64 q, .int .i64 F.due, .slice F.a F.n F.c] 48) R1.out); obtain ⟨n0, n1, n2, n3, n4⟩ := fl_cells (heap_alloc_new w1 (.cells #[.int .i64 F.id, .int .i64 p, .int .i64 q, .int .i64 F.due, .slice F.a F.n F.c] 48))) | fail)
    go_quiet (fail)
    have hV : Below (w1.alloc (.cells #[.int .i64 F.id, .int .i64 p, .int .i64 q, .int .i64 F.due, .slice F.a F.n F.c] 48)).heap.size (w1.alloc (.cells #[.int .i64 F.id, .int .i64 p, .int .i64 q, .int .i64 F.due, .slice F.a F.n F.c] 48)) ((w1.alloc (.cells #[.int .i64 F.id, .int .i64 p, .int .i64 q, .int .i64 F.due, .slice F.a F.n F.c] 48)).drewN nq) := below_drewN (Below.refl _ _) nq
    have HF2 : Hid (((w1.alloc (.cells #[.int .i64 F.id, .int .i64 p, .int .i64 q, .int .i64 F.due, .slice F.a F.n F.c] 48)).drewN nq).heap[w1.heap.size]? = some (.cells #[.int .i64 F.id, .int .i64 p, .int .i64 q, .int .i64 F.due, .slice F.a F.n F.c] 48 (0, 0))) := (hV.block _ (by simp)).trans (heap_alloc_new w1 _)
    have HB2 : Hid (((w1.alloc (.cells #[.int .i64 F.id, .int .i64 p, .int .i64 q, .int .i64 F.due, .slice F.a F.n F.c] 48)).drewN nq).heap[w.heap.size]? = some (.cells #[.int .i64 0, .int .i64 0, .int .i64 0, .int .i64 0, .slice none 0 0] 48 (0, 0))) := (hV.block _ (by simp; omega)).trans (blk_alloc HB1.out)
    have R2 : Hid (Below w.heap.size w ((w1.alloc (.cells #[.int .i64 F.id, .int .i64 p, .int .i64 q, .int .i64 F.due, .slice F.a F.n F.c] 48)).drewN nq)) := bstep (balloc R1.out) hV
    clear hV e0 e1 e2 e3 e4 g0 g1 g2 g3 g4 s1 s2 s3 s4 x0 x1 x2 x3 x4 n0 n1 n2 n3 n4
    generalize (w1.alloc (.cells #[.int .i64 F.id, .int .i64 p, .int .i64 q, .int .i64 F.due, .slice F.a F.n F.c] 48)).drewN nq = V at HF2 HB2 R2 ⊢
    obtain ⟨e0, e1, e2, e3, e4⟩ := fl_cells HB2.out
    obtain ⟨g0, g1, g2, g3, g4⟩ := fl_frz HB2.out
    obtain ⟨n0, n1, n2, n3, n4⟩ := fl_cells HF2.out
    obtain ⟨s3, s4⟩ := Hh.out _ R2.out
    go_wp2
    go_quiet (fail)
    have hV : Below V.heap.size V (V.drewN nq) := below_drewN (Below.refl _ _) nq
    have HF3 : Hid ((V.drewN nq).heap[w1.heap.size]? = some (.cells #[.int .i64 F.id, .int .i64 p, .int .i64 q, .int .i64 F.due, .slice F.a F.n F.c] 48 (0, 0))) := (hV.block _ (lt_heap HF2.out)).trans HF2.out
    have HB3 : Hid ((V.drewN nq).heap[w.heap.size]? = some (.cells #[.int .i64 0, .int .i64 0, .int .i64 0, .int .i64 0, .slice none 0 0] 48 (0, 0))) := (hV.block _ (lt_heap HB2.out)).trans HB2.out
    have R3 : Hid (Below w.heap.size w (V.drewN nq)) := bstep R2.out hV
    clear hV e0 e1 e2 e3 e4 g0 g1 g2 g3 g4 s3 s4 n0 n1 n2 n3 n4
    generalize V.drewN nq = V2 at HF3 HB3 R3 ⊢
    obtain ⟨e0, e1, e2, e3, e4⟩ := fl_cells HB3.out
    obtain ⟨g0, g1, g2, g3, g4⟩ := fl_frz HB3.out
    obtain ⟨n0, n1, n2, n3, n4⟩ := fl_cells HF3.out
    obtain ⟨s3, s4⟩ := Hh.out _ R3.out
    obtain ⟨c5, _, _, _, _, _, x5, z5⟩ := Hg.out _ R3.out
    have HT : Hid (Rtep V2 (V2.setCell ⟨g, i * 6 + 5, none⟩ (.bool true)) R RN B) := HS.out _ R3.out
    have hsz2 : w.heap.size < V2.heap.size := lt_heap HB3.out
    have hne1 : ¬ g = w.heap.size := by omega
    have hne2 : ¬ g = w1.heap.size := by omega
    have HG : Hid (∀ w', Below V2.heap.size (V2.setCell ⟨g, i * 6 + 5, none⟩ (.bool true)) w' → Calls Try.prog 90 #[.agg #[.int .i64 F.id, .int .i64 p, .int .i64 q, .int .i64 F.due, .slice F.a F.n F.c]] w' fun e w2 => ∃ a c', e = .returned (.agg #[.int .i64 F.id, .int .i64 p, .int .i64 q, .int .i64 F.due, .slice a F.n c']) ∧ w2.ownsRow w'.heap.size 5 1 (.slice a F.n c') F.n (F.bs.map (Value.int .u8)) ∧ Below w'.heap.size w' w2) := fun w' hb => given_any F.id p q F.due F.a F.n F.c F.bs ((HM2.out _ HT.out.ok).rd.still (by simpa using hb)) (by omega)
    have HB4 : Hid ((V2.setCell ⟨g, i * 6 + 5, none⟩ (.bool true)).heap[w.heap.size]? = some (.cells #[.int .i64 0, .int .i64 0, .int .i64 0, .int .i64 0, .slice none 0 0] 48 (0, 0))) := HT.out.kept.obj HB3.out (fun e => by have := Hw.out _ e; omega)
    go_wp2_with (first | (go_at_call 90; refine (HG.out _ (by repeat (first | exact Below.refl _ _ | apply Below.drew | apply balloc))).mono ?_; rintro e w5 ⟨av, cv, rfl, ho5, hb5⟩; have HB5 : Hid (w5.heap[w.heap.size]? = some (.cells #[.int .i64 0, .int .i64 0, .int .i64 0, .int .i64 0, .slice none 0 0] 48 (0, 0))) := ((hb5.block _ (by simpa using hsz2)).trans HB4.out); obtain ⟨e0, e1, e2, e3, e4⟩ := fl_cells HB5.out; obtain ⟨g0, g1, g2, g3, g4⟩ := fl_frz HB5.out) | fail)
    rw [put5_eq]
    obtain ⟨q0, q1, q2, q3, q4⟩ := fl_cells (put5_blk (.int .i64 F.id) (.int .i64 p) (.int .i64 q) (.int .i64 F.due) (.slice av F.n cv) HB5.out)
    have hne : ¬ RN.own w.heap.size := by
      intro ho
      rcases HT.out.own _ ho with h1 | h1
      · have := Hw.out _ h1; omega
      · omega
    have kp := put5_kept (W := w5) w.heap.size (.int .i64 F.id) (.int .i64 p) (.int .i64 q) (.int .i64 F.due) (.slice av F.n cv)
    have st : Rtep w (put5 w5 w.heap.size (.int .i64 F.id) (.int .i64 p) (.int .i64 q) (.int .i64 F.due) (.slice av F.n cv)) R RN B := (Rtep.post (Rtep.pre R3.out HT.out) hb5).after kp hne
    have ow : (put5 w5 w.heap.size (.int .i64 F.id) (.int .i64 p) (.int .i64 q) (.int .i64 F.due) (.slice av F.n cv)).ownsRow w.heap.size 5 1 (.slice av F.n cv) F.n (F.bs.map (Value.int .u8)) := own_lower (kp.owns ho5 (fun j hj e => by have := (World.ownsRow.lt ho5 j hj).1; simp at this; omega)) (by simp; omega)
    exact bodyPost_ret (v := .tuple #[.agg #[.int .i64 F.id, .int .i64 p, .int .i64 q, .int .i64 F.due, .slice av F.n cv], .int .i64 0]) (by simp [results, Try.results84, go_sem, q0, q1, q2, q3, q4]) rfl ⟨av, cv, rfl, ow, st⟩
end
end Go.Proofs.Ythogcanfinjfdaa.Et
