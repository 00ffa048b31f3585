import Derived.Test.YtnhhjelplmdloaaV05
namespace Go.Proofs.Ytnhhjelplmdloaa.Et
open Go.RowKit Go.Maps
set_option linter.unusedVariables false
set_option linter.unusedSimpArgs false
set_option maxRecDepth 100000
section
variable {E E' : En} {w w' W w1 : World} {B m : Nat}
def apV (u v : Value) : Prop := ∀ k, u.ownBlock = some k → v.ownBlock ≠ some k
theorem apt_map (fs : List Fx) : fs.Pairwise Fx.apart ↔ (fs.map Fx.v).Pairwise apV := by rw [List.pairwise_map]; rfl
theorem apt_same {fs fs' : List Fx} (h : fs'.map Fx.v = fs.map Fx.v) (ha : fs.Pairwise Fx.apart) : fs'.Pairwise Fx.apart := by
  rw [apt_map] at ha ⊢
  rw [h]
  exact ha
theorem set_map {fs : List Fx} {k : Nat} (hk : k < fs.length) {f' : Fx} (h : f'.v = (fs.getD k f0).v) : (fs.set k f').map Fx.v = fs.map Fx.v := by
  rw [List.map_set, h]
  apply List.ext_getElem
  · simp
  · intro i h1 h2
    rw [List.getElem_set]
    split
    · rename_i e; subst e; simp [List.getD, List.getElem?_eq_getElem hk]
    · rfl
theorem own_map {fs fs' : List Fx} (h : fs'.map Fx.v = fs.map Fx.v) {j : Nat} (hj : ∃ f ∈ fs', f.v.ownBlock = some j) : ∃ f ∈ fs, f.v.ownBlock = some j := by
  obtain ⟨f, hf, e⟩ := hj
  have : f.v ∈ fs.map Fx.v := by rw [← h]; exact List.mem_map_of_mem hf
  obtain ⟨f2, hf2, e2⟩ := List.mem_map.1 this
  exact ⟨f2, hf2, by rw [e2]; exact e⟩
theorem flCells_set (fs : List Fx) (k : Nat) (hk : k < fs.length) (f' : Fx) (j : Nat) (hj : j < 5) (v : Value) (h : f'.cs.toList = (fs.getD k f0).cs.toList.set j v) : flCells (fs.set k f') = (flCells fs).set (k * 5 + j) v := by
  induction fs generalizing k with
  | nil => simp at hk
  | cons f fs ih =>
    have hl : f.cs.toList.length = 5 := rfl
    cases k with
    | zero =>
      simp only [List.set_cons_zero, flCells, List.flatMap_cons, Nat.zero_mul, Nat.zero_add]
      rw [List.set_append_left _ _ (by rw [hl]; exact hj)]
      simp at h
      simp [h]
    | succ k =>
      have := ih k (by simpa using hk) (by simpa using h)
      simp only [flCells, List.set_cons_succ, List.flatMap_cons] at this ⊢
      rw [this, List.set_append_right _ _ (by rw [hl]; omega), hl, show (k + 1) * 5 + j - 5 = k * 5 + j by omega]
theorem mem_set {fs : List Fx} {k : Nat} {f' f : Fx} (h : f ∈ fs.set k f') : f = f' ∨ f ∈ fs := by
  rcases List.mem_or_eq_of_mem_set h with h | h
  · exact .inr h
  · exact .inl h
theorem Step.due (h : E.Ok w B m) (k : Nat) (hk : k < E.fs.length) (g : Nat) (hva : E.va = some ⟨g, 0, none⟩) (x : Int) : Step w (w.setCell ⟨g, k * 5 + 3, none⟩ (.int .i64 x)) E { E with fs := E.fs.set k { (E.fs.getD k f0) with due := x } } B m := by
  have hvo : (Value.slice E.va E.fs.length E.vc).ownBlock = some g := by rw [hva]; rfl
  have hgr := h.row_ne hvo
  have k1 : Kept w (w.setCell ⟨g, k * 5 + 3, none⟩ (.int .i64 x)) (fun j => j = g) := kset w g _ _ rfl
  have hmp : (E.fs.set k { (E.fs.getD k f0) with due := x }).map Fx.v = E.fs.map Fx.v := set_map hk rfl
  have hrow := h.fls.row
  rw [hva] at hrow
  have hst := (World.ownsRow.stored hrow (k * 5 + 3) (.int .i64 x)).1
  rw [← flCells_set E.fs k hk { (E.fs.getD k f0) with due := x } 3 (by omega) (.int .i64 x) rfl] at hst
  refine ⟨⟨?_, ?_, ?_, ?_, ⟨?_, ?_, ?_⟩, h.ge, h.ne, h.n16, ?_, h.dly⟩, ?_, ?_⟩
  · have := k1.obj h.blk (fun e => hgr.1 e.symm)
    rw [this]
    simp [En.cs]
  · exact h.nod.keep k1 (fun e => hgr.2.1 e.symm)
  · exact h.cut.keep k1 (fun e => hgr.2.2.1 e.symm)
  · exact h.del.keep k1 (fun e => hgr.2.2.2 e.symm)
  · simp only [List.length_set, hva]
    exact hst
  · intro f hf
    rcases mem_set hf with rfl | hf
    · exact Fx.byt.keep (f := E.fs.getD k f0) (h.fls.byt _ (mem_getD hk)) k1 (fun j hj e => (h.byt_ne (mem_getD hk) hj).2.2.2.2 (by rw [e]; exact hvo))
    · exact (h.fls.byt f hf).keep k1 (fun j hj e => (h.byt_ne hf hj).2.2.2.2 (by rw [e]; exact hvo))
  · exact apt_same hmp h.fls.apt
  · intro f hf
    rcases mem_set hf with rfl | hf
    · exact h.pth (E.fs.getD k f0) (mem_getD hk)
    · exact h.pth f hf
  · exact k1.mono (fun j _ e => .inr (.inr (.inr (.inr (.inl (by rw [e]; exact hvo))))))
  · intro j hj
    left
    rcases hj with e | e | e | e | e | e
    · exact .inl e
    · exact .inr (.inl e)
    · exact .inr (.inr (.inl e))
    · exact .inr (.inr (.inr (.inl e)))
    · exact .inr (.inr (.inr (.inr (.inl (by simpa using e)))))
    · exact .inr (.inr (.inr (.inr (.inr (own_map hmp e)))))
theorem Step.bit (h : E.Ok w B m) (k : Nat) (hk : k < E.fs.length) (g : Nat) (hg : (E.fs.getD k f0).a = some ⟨g, 0, none⟩) (i : Nat) (x : Int) (hx : 0 ≤ x ∧ x ≤ 255) : Step w (w.setCell ⟨g, i, none⟩ (.int .u8 x)) E { E with fs := E.fs.set k { (E.fs.getD k f0) with bs := (E.fs.getD k f0).bs.set i x } } B m := by
  have hm := mem_getD hk
  have hgo : (E.fs.getD k f0).v.ownBlock = some g := by unfold Fx.v; rw [hg]; rfl
  have hgr := h.byt_ne hm hgo
  have k1 : Kept w (w.setCell ⟨g, i, none⟩ (.int .u8 x)) (fun j => j = g) := kset w g _ _ rfl
  have hmp : (E.fs.set k { (E.fs.getD k f0) with bs := (E.fs.getD k f0).bs.set i x }).map Fx.v = E.fs.map Fx.v := set_map hk rfl
  have hrow : w.ownsRow B 5 1 (.slice (some ⟨g, 0, none⟩) (E.fs.getD k f0).n (E.fs.getD k f0).c) (E.fs.getD k f0).n ((E.fs.getD k f0).bs.map (Value.int .u8)) := by
    have := (h.fls.byt _ hm).1
    unfold Fx.v at this
    rw [hg] at this
    exact this
  have hst := (World.ownsRow.stored hrow i (.int .u8 x)).1
  rw [← List.map_set] at hst
  have hfl : flCells (E.fs.set k { (E.fs.getD k f0) with bs := (E.fs.getD k f0).bs.set i x }) = flCells E.fs := by
    rw [flCells_set E.fs k hk { (E.fs.getD k f0) with bs := (E.fs.getD k f0).bs.set i x } 4 (by omega) (E.fs.getD k f0).v rfl]
    apply List.ext_getElem?
    intro j
    rw [List.getElem?_set]
    split
    · rename_i e
      subst e
      rw [flCells_get E.fs k hk 4 (by omega)]
      simp [Fx.cs, Fx.v, flCells_len]
      omega
    · rfl
  refine ⟨⟨?_, ?_, ?_, ?_, ⟨?_, ?_, ?_⟩, h.ge, h.ne, h.n16, ?_, h.dly⟩, ?_, ?_⟩
  · have := k1.obj h.blk (fun e => hgr.1 e.symm)
    rw [this]
    simp [En.cs]
  · exact h.nod.keep k1 (fun e => hgr.2.1 e.symm)
  · exact h.cut.keep k1 (fun e => hgr.2.2.1 e.symm)
  · exact h.del.keep k1 (fun e => hgr.2.2.2.1 e.symm)
  · simp only [List.length_set]
    rw [hfl]
    exact k1.owns h.fls.row (fun j hj e => hgr.2.2.2.2 (by rw [← e]; exact hj))
  · intro f hf
    obtain ⟨j, hj, rfl⟩ := List.getElem_of_mem hf
    rw [List.length_set] at hj
    rw [List.getElem_set]
    split
    · refine ⟨?_, ?_⟩
      · unfold Fx.v
        rw [hg]
        exact hst
      · intro i'
        simp only [List.getD, List.getElem?_set]
        split
        · split
          · exact hx
          · simp
        · exact (h.fls.byt _ hm).2 i'
    · rename_i hne
      refine (h.fls.byt _ (List.getElem_mem hj)).keep k1 (fun q hq e => ?_)
      subst e
      have hap := List.pairwise_iff_getElem.1 h.fls.apt
      have hgk : (E.fs[k]).v.ownBlock = some q := by simpa [List.getD, List.getElem?_eq_getElem hk] using hgo
      rcases Nat.lt_or_gt_of_ne hne with hlt | hlt
      · exact hap k j hk hj hlt q hgk hq
      · exact hap j k hj hk hlt q hq hgk
  · exact apt_same hmp h.fls.apt
  · intro f hf
    rcases mem_set hf with rfl | hf
    · exact h.pth (E.fs.getD k f0) hm
    · exact h.pth f hf
  · exact k1.mono (fun j _ e => .inr (.inr (.inr (.inr (.inr ⟨_, hm, by rw [e]; exact hgo⟩)))))
  · intro j hj
    left
    rcases hj with e | e | e | e | e | e
    · exact .inl e
    · exact .inr (.inl e)
    · exact .inr (.inr (.inl e))
    · exact .inr (.inr (.inr (.inl e)))
    · exact .inr (.inr (.inr (.inr (.inl (by simpa using e)))))
    · exact .inr (.inr (.inr (.inr (.inr (own_map hmp e)))))
set_option maxHeartbeats 400000 in
theorem hold_no (g o : Nat) (x : Int) (hx : x < 1 ∨ 16 < x) : Calls Try.prog 60 #[.pointer (some ⟨g, o, none⟩), .int .i64 x] w fun e w' => e = .returned (.int .i64 1) ∧ w = w' := by
  go_enter Try.func60, Try.ntmps60
  go_wp2
  all_goals first | (exfalso; omega) | (go_ret; exact ⟨rfl, rfl⟩)
set_option maxHeartbeats 400000 in
theorem hold_ok (g o : Nat) (x d : Int) (h1 : 1 ≤ x) (h2 : x ≤ 16) (hc : w.cell? ⟨g, o + 3, none⟩ = some (.int .i64 d)) (hf : w.frozen? ⟨g, o + 3, none⟩ = false) : Calls Try.prog 60 #[.pointer (some ⟨g, o, none⟩), .int .i64 x] w fun e w' => e = .returned (.int .i64 0) ∧ w' = w.setCell ⟨g, o + 3, none⟩ (.int .i64 (wrap64 (d + x))) := by
  go_enter Try.func60, Try.ntmps60
  go_wp2
  all_goals first | (exfalso; omega) | (go_ret; exact ⟨rfl, rfl⟩)
theorem wrap_id {a : Int} (h0 : -9223372036854775808 ≤ a) (h1 : a ≤ 9223372036854775807) : IntKind.i64.wrap a = a := by
  simp only [IntKind.wrap, IntKind.bits, IntKind.signed]
  simp
  omega
def flipB (x : Int) (b : Nat) : Int := bits .xor .u8 x (IntKind.u8.wrap (2 ^ b))
set_option maxHeartbeats 400000 in
theorem flip_neg (g o : Nat) (x : Int) (hx : x < 0) : Calls Try.prog 61 #[.pointer (some ⟨g, o, none⟩), .int .i64 x] w fun e w' => e = .returned (.int .i64 1) ∧ w = w' := by
  go_enter Try.func61, Try.ntmps61
  go_wp2
  all_goals first | (exfalso; omega) | (go_ret; exact ⟨rfl, rfl⟩)
set_option maxHeartbeats 400000 in
theorem flip_far (g o : Nat) (a : Option Addr) (n c : Nat) (x : Nat) (hc : w.cell? ⟨g, o + 4, none⟩ = some (.slice a n c)) (hx : n ≤ x / 8) (h63 : (x : Int) ≤ 9223372036854775807) : Calls Try.prog 61 #[.pointer (some ⟨g, o, none⟩), .int .i64 x] w fun e w' => e = .returned (.int .i64 1) ∧ w = w' := by
  have b0 : (0 : Int) ≤ (x : Int) / 8 := by omega
  have b1 : (x : Int) / 8 ≤ 9223372036854775807 := by omega
  have b2 : (n : Int) ≤ (x : Int) / 8 := by omega
  go_enter Try.func61, Try.ntmps61
  go_wp2
  all_goals first | (exfalso; omega) | (go_ret; exact ⟨rfl, rfl⟩)
set_option maxHeartbeats 400000 in
theorem flip_ok (g o : Nat) (gb : Nat) (n c : Nat) (x : Nat) (y : Int) (hc : w.cell? ⟨g, o + 4, none⟩ = some (.slice (some ⟨gb, 0, none⟩) n c)) (hx : x / 8 < n) (hy : w.cell? ⟨gb, x / 8, none⟩ = some (.int .u8 y)) (hf : w.frozen? ⟨gb, x / 8, none⟩ = false) (h63 : (x : Int) ≤ 9223372036854775807) : Calls Try.prog 61 #[.pointer (some ⟨g, o, none⟩), .int .i64 x] w fun e w' => e = .returned (.int .i64 0) ∧ w' = (w.setCell ⟨gb, x / 8, none⟩ (.int .u8 (flipB y (x % 8)))).drew := by
  have b0 : (0 : Int) ≤ (x : Int) / 8 := by omega
  have b1 : (x : Int) / 8 ≤ 9223372036854775807 := by omega
  have b2 : (x : Int) / 8 < (n : Int) := by omega
  have b3 : ((x : Int) / 8).toNat = x / 8 := by omega
  have b4 : (x : Int).tmod 8 = ((x % 8 : Nat) : Int) := by rw [Int.tmod_eq_emod_of_nonneg (by omega)]; omega
  have b6 : IntKind.i64.wrap ((x : Int) / 8) = (x : Int) / 8 := wrap_id (by omega) (by omega)
  have b7 : x % 8 < 8 := Nat.mod_lt _ (by omega)
  go_enter Try.func61, Try.ntmps61
  go_wp2
  go_region_law (fail)
  all_goals (go_wp2; go_ret; exact ⟨rfl, by rw [show ((x : Int) % 8).toNat = x % 8 by omega]; rfl⟩)
end
end Go.Proofs.Ytnhhjelplmdloaa.Et
