import Derived.Test.YtnhhjelplmdloaaZ42
namespace Go.Proofs.Ytnhhjelplmdloaa.Et
open Go.RowKit Go.Maps
set_option linter.unusedVariables false
set_option linter.unusedSimpArgs false
set_option maxRecDepth 100000
section
variable {E E1 E' : En} {w w' w1 w2 w3 : World} {B K m : Nat} {bb : Nat} {sv dv bv cv : Value} {es : List Be}
theorem run_any (h : Jm w E B K bb sv dv bv cv es) (hK : K ≤ 2199023255551) (o : Opx) (bs xs : List Int) (hbb : ∀ X, Below B w X → Rd X o.ba o.bn o.bc bs) (hss : ∀ X, Below B w X → RdI X o.sa o.sn o.sc xs) (hbn : o.bn ≤ 140737488351232) (hsn : o.sn ≤ 17592186043904) (h63 : o.n ≤ 9223372036854775807) : Calls Try.prog 11 #[.pointer (some ⟨bb, 0, none⟩), .pointer (some ⟨E.b, 0, none⟩), .agg o.cs] w fun e w' => e = .returned (.bool true) ∧ RunQ w w' E B K bb := by
  by_cases h5 : 5 ≤ o.k ∧ o.k ≤ 7
  · exact run_turn h hK o h5.1 h5.2
  by_cases h10 : o.k = 10
  · exact run_post h hK o bs hbb hbn h10
  by_cases h11 : o.k = 11
  · exact run_round h hK o h11
  by_cases h12 : o.k = 12
  · exact run_take h hK o h12
  by_cases h20 : 20 < o.k ∧ o.k ≤ 60
  · exact run_do h hK o bs xs hbb hss hbn hsn h63 h20.1 h20.2
  · exact run_else h o ⟨by omega, by omega, by omega, h10, h11, h12⟩ h20
variable {b bn bc bd nd : Nat} {rm : Int} {X : World} {q : Nat}
theorem jm0 (h : En.Ok (newE b bn bc bd nd rm nd) w B 0) (hB : B ≤ w.heap.size) (h3 : 1 ≤ rm) (h4 : rm ≤ 20000) : Jm (w.alloc (.cells #[(.slice none 0 0), (.slice none 0 0), (.slice none 0 0), (.slice none 0 0)] 34)) (newE b bn bc bd nd rm nd) B 0 w.heap.size (.slice none 0 0) (.slice none 0 0) (.slice none 0 0) (.slice none 0 0) [] := by
  have hb : Below w.heap.size w (w.alloc (.cells #[(.slice none 0 0), (.slice none 0 0), (.slice none 0 0), (.slice none 0 0)] 34)) := balloc (Below.refl _ _)
  refine ⟨h.still hb, ⟨⟨h3, h4⟩, by show ((0 : Nat) : Int) ≤ rm; omega, Nat.le_refl _, fun f hf => by simp [newE] at hf, ⟨Int.le_refl _, Int.le_refl _⟩, List.Pairwise.nil, fun f hf => by simp [newE] at hf, ⟨Int.le_refl _, Int.le_refl _⟩, fun f hf => by simp [newE] at hf⟩, fun k hk => ?_, ⟨⟨heap_alloc_new w _, hB, World.ownsRow_nil _ _ _ _, World.ownsRow_nil _ _ _ _, World.ownsRow_nil _ _ _ _, World.ownsRow_nil _ _ _ _, fun j hj => by simp [Value.ownBlock] at hj⟩, ⟨fun i hi => by simp at hi, fun i j hi => by simp at hi⟩, fun i j => by simp [e0]⟩, ⟨rfl, fun f hf => by simp [newE] at hf⟩, fun j hj e => ?_, Nat.le_trans hB hb.size⟩
  · have hk : k < nd := hk
    show 1 ≤ (if k < nd then (1 : Int) else 0) ∧ (if k < nd then (1 : Int) else 0) ≤ _
    rw [if_pos hk]
    omega
  · have := h.ltOwn hj
    rcases e with (e | e | e | e | e) | ⟨i, hi, _⟩
    · omega
    · simp [Value.ownBlock] at e
    · simp [Value.ownBlock] at e
    · simp [Value.ownBlock] at e
    · simp [Value.ownBlock] at e
    · simp at hi
theorem rd_12 (h : X.heap[q]? = some (.cells #[.int .u8 1, .int .u8 2] 5 (0, 0))) : Rd X (some ⟨q, 0, none⟩) 2 2 [1, 2] := by
  refine ⟨rfl, fun e => (by cases e), .inr ⟨q, 0, rfl, fun i hi => ?_⟩, fun i => ?_⟩
  · rw [Nat.zero_add, blk_cell h i]
    rcases (show i = 0 ∨ i = 1 by omega) with rfl | rfl <;> rfl
  · rcases i with _ | _ | i
    · decide
    · decide
    · simp
def Second (X w2 : World) (E : En) (B bb g : Nat) : Prop := ∃ f : Fx, w2.rangeAt g 0 f.cs.toList ∧ Calls Try.prog 10 #[.pointer (some ⟨bb, 0, none⟩), .agg f.cs] w2 fun e w3 => e = .returned (.bool true) ∧ RunQ X w3 E B 1 bb
theorem second_x (h : Jm X E B 1 bb sv dv bv cv es) (hc : (E.fs.filter (comes E)).length = 1) : Calls Try.prog 9 #[.pointer (some ⟨E.b, 0, none⟩)] X fun e w2 => ∃ g c, e = .returned (.slice (some ⟨g, 0, none⟩) 1 c) ∧ Second X w2 E B bb g ∧ Below B X w2 := by
  have hlen := h.len
  refine (round_y h (by omega)).mono ?_
  rintro e w2 ⟨a, n, c, L, E1, rfl, h1, h2, h3, h4, s, hn⟩
  rw [hc] at hn
  subst hn
  obtain ⟨g, rfl, hr⟩ := s.cells h4 (by omega)
  have h0 := hr 0 (by omega)
  rw [Nat.zero_mul] at h0
  refine ⟨g, c, rfl, ⟨L.getD 0 f0, h0, (s.step h4 (by omega) (by omega)).mono ?_⟩, s.low⟩
  rintro e w3 ⟨rfl, es', hl, hs⟩
  exact ⟨rfl, hs.ends h1 h2⟩
theorem first_x {k : Nat} (h : Jm X (newE b bn bc bd (k + 1) rm (k + 1)) B 0 bb (.slice none 0 0) (.slice none 0 0) (.slice none 0 0) (.slice none 0 0) []) (h1 : 1 ≤ k) (h2 : k ≤ 15) (h3 : 1 ≤ rm) (h4 : rm ≤ 20000) (hq : X.heap[q]? = some (.cells #[.int .u8 1, .int .u8 2] 5 (0, 0))) (hqE : ¬ (newE b bn bc bd (k + 1) rm (k + 1)).own q) (hqB : ¬ Bo bb (.slice none 0 0) (.slice none 0 0) (.slice none 0 0) (.slice none 0 0) q) : Calls Try.prog 7 #[.pointer (some ⟨b, 0, none⟩), .int .i64 0, .int .i64 (k : Int), .slice (some ⟨q, 0, none⟩) 2 2] X fun e w2 => e = .returned (.tuple #[.int .i64 1, .int .i64 0]) ∧ Below B X w2 ∧ Calls Try.prog 8 #[.pointer (some ⟨bb, 0, none⟩), .int .i64 1, .int .i64 0, .int .i64 (k : Int), .slice (some ⟨q, 0, none⟩) 2 2] w2 fun e w3 => e = .returned (.bool true) ∧ ∃ E1 sv dv bv cv es, Jm w3 E1 B 1 bb sv dv bv cv es ∧ E1.b = b ∧ (E1.fs.filter (comes E1)).length = 1 ∧ Below B w2 w3 := by
  generalize hE : newE b bn bc bd (k + 1) rm (k + 1) = E at *
  have f1 : E.nn = k + 1 := by rw [← hE]; rfl
  have f2 : E.up 0 = true := by rw [← hE]; simp [newE]
  have f3 : ∀ p q, E.cut p q = false := fun p q => by rw [← hE]; rfl
  have f4 : E.fs = [] := by rw [← hE]; rfl
  have f5 : E.room = rm := by rw [← hE]; rfl
  have f6 : E.clock = 0 := by rw [← hE]; rfl
  have f7 : E.last = 0 := by rw [← hE]; rfl
  have f8 : E.b = b := by rw [← hE]; rfl
  have f9 : E.up k = true := by rw [← hE]; simp [newE]
  have f10 : E.dl 0 k = 1 := by rw [← hE]; rfl
  clear hE
  have hw : wN E = 1 := by rw [wN_is h.i (by omega), f7]; rfl
  have hno : (isP E ((0 : Nat) : Int) (k : Int) && decide (((2 : Nat) : Int) ≤ 40000)) = true := by
    rw [isP_nat (by omega) (by omega) (by omega)]
    rfl
  rw [← f8]
  refine post_go h.e 0 (k : Int) (some ⟨q, 0, none⟩) 2 2 (by omega) hno f2 _ (fun Y hY => ?_)
  have hJ := h.still hY
  have hqY := (hY.block _ (lt_heap hq)).trans hq
  refine (launch_ok hJ.e hJ.hB 0 k (by omega) (by omega) (by omega) (f3 0 k) (some ⟨q, 0, none⟩) 2 2 [1, 2] (rd_12 hqY) (by omega) (by rw [f4, f5]; exact h3) (by rw [f5]; exact h4)).mono ?_
  rintro e w2 ⟨rfl, g, a, c, st⟩
  have hd : IntKind.i64.wrap (E.clock + E.dl 0 k) = 1 := by rw [f6, f10]; rfl
  have gg : Go1 Y w2 E (added E (nf E 0 k 2 [1, 2] g) a c) B 0 := ⟨⟨_, st, by omega⟩, nx_added h.i (by omega) _ _ _ rfl (by show 2 ≤ 40000; omega) (by show E.clock < IntKind.i64.wrap (E.clock + E.dl 0 k); rw [hd, f6]; decide) (by show IntKind.i64.wrap (E.clock + E.dl 0 k) ≤ _; rw [hd]; decide) (by rw [f4, f5]; exact h3), rfl⟩
  have hl2 := gg.low hJ
  have hlY : Below B X Y := hY.mono h.hB
  have hh := hJ.go1 gg
  have hq2 : w2.heap[q]? = some (.cells #[.int .u8 1, .int .u8 2] 5 (0, 0)) := st.kept.obj hqY hqE
  refine ⟨⟨_, _, rfl⟩, by rw [hw], hlY.trans hl2, ?_⟩
  refine (put_any hh.b hh.hB 1 0 (k : Int) (fun Z hZ => rd_12 (hZ.obj hq2 hqB)) (by simp) (by omega)).mono ?_
  rintro e w3 ⟨r, rfl, hr, hp⟩
  have hrt : r = true := hr.2 (by simp)
  subst hrt
  obtain ⟨sv', dv', bv', cv', a', c', hh2⟩ := hh.put (show PutQ w2 w3 B bb (.slice none 0 0) (.slice none 0 0) (.slice none 0 0) (.slice none 0 0) [] 0 (k : Int) [1, 2] from hp)
  obtain ⟨_, _, _, _, _, _, _, hkp, _⟩ := hp
  refine ⟨rfl, _, _, _, _, _, _, hh2.done (h.r.adx h.i (by omega) ⟨_, _, _, rfl, hw.trans (by rw [f7]; rfl), rfl, rfl, rfl⟩ a' c'), rfl, ?_, low_of hh.b hh.hB hkp⟩
  have hck : ckN (added E (nf E 0 k 2 [1, 2] g) a c) = 1 := by
    show wrap64 (E.clock + 1) = 1
    rw [f6, wrap_eq, wrap_id (by omega) (by omega)]
    rfl
  show ((E.fs ++ [nf E 0 k 2 [1, 2] g]).filter (comes (added E (nf E 0 k 2 [1, 2] g) a c))).length = 1
  rw [f4, List.nil_append]
  have hcm : comes (added E (nf E 0 k 2 [1, 2] g) a c) (nf E 0 k 2 [1, 2] g) = true := by
    unfold comes
    rw [hck]
    have e1 : (nf E 0 k 2 [1, 2] g).due = 1 := hd
    have e2 : barE (added E (nf E 0 k 2 [1, 2] g) a c) (nf E 0 k 2 [1, 2] g).src.toNat (nf E 0 k 2 [1, 2] g).dst.toNat = 0 := by
      show barE (added E (nf E 0 k 2 [1, 2] g) a c) 0 k = 0
      unfold barE
      rw [show (added E (nf E 0 k 2 [1, 2] g) a c).cut 0 k = false from f3 0 k, show (added E (nf E 0 k 2 [1, 2] g) a c).up k = true from f9]
      rfl
    rw [e1, e2]
    rfl
  rw [List.filter_cons_of_pos hcm]
  rfl
end
end Go.Proofs.Ytnhhjelplmdloaa.Et
