import Derived.Test.YtjgjpepmfiklfaaGreatDoorSettled
namespace Go.Proofs.YtjgjpepmfiklfaaGreatDoor.Bk
open Go.RowKit Lo
set_option linter.unusedVariables false

def BkAt (w : World) (B kb : Nat) (nx : Int) (ps : List Pg) : Prop := B ≤ kb ∧ ∃ vp, BookIs w B kb vp nx ps

structure Sp (w w' : World) (B : Nat) (bl : Nat → Prop) : Prop where
  bel : Below B w w'
  own : ∀ {base' e size n : Nat} {v : Value} {xs : List Value}, w.ownsRow base' e size v n xs → e ≠ 75 → e ≠ 44 → (∀ k, v.ownBlock = some k → ¬ bl k) → w'.ownsRow base' e size v n xs
  siz : w.heap.size ≤ w'.heap.size

theorem Sp.u8 {w w' : World} {B : Nat} {bl : Nat → Prop} (h : Sp w w' B bl) {base' : Nat} {v : Value} {xs : List Int} (ho : Own w base' v xs) (hb : ∀ k, v.ownBlock = some k → ¬ bl k) : Own w' base' v xs := h.own ho (by decide) (by decide) hb

theorem BookIs.vlt {w : World} {B kb : Nat} {vp : Value} {nx : Int} {ps : List Pg} (h : BookIs w B kb vp nx ps) (k : Nat) (hk : vp.ownBlock = some k) : B ≤ k := (h.o.lt k hk).1

theorem BookIs.vtype {w : World} {B kb : Nat} {vp : Value} {nx : Int} {ps : List Pg} (h : BookIs w B kb vp nx ps) {base' e size n : Nat} {v : Value} {xs : List Value} (ho : w.ownsRow base' e size v n xs) (h1 : e ≠ 75) (h2 : e ≠ 44) (k : Nat) (hk : v.ownBlock = some k) : k ≠ kb ∧ vp.ownBlock ≠ some k := by
  obtain ⟨cur, hc⟩ := owns_type ho hk
  refine ⟨fun e => ?_, fun e => ?_⟩
  · subst e; exact apart_types hc h.k h2
  · obtain ⟨c2, hc2⟩ := owns_type h.o e
    exact apart_types hc hc2 h1

theorem sp_of {w w' : World} {B kb : Nat} {vp : Value} {nx : Int} {ps : List Pg} {bl P : Nat → Prop} (h : BookIs w B kb vp nx ps) (hkb : B ≤ kb) (hK : Kept w w' P) (hP : ∀ j, P j → j = kb ∨ vp.ownBlock = some j ∨ bl j) (hbl : ∀ j, bl j → B ≤ j) : Sp w w' B bl := by
  refine ⟨hK.below h.b (fun k hk hp => ?_), fun {base' e size n v xs} ho h1 h2 hb => hK.owns ho (fun k hk hp => ?_), hK.size⟩
  · rcases hP k hp with e | e | e
    · omega
    · have := h.vlt k e; omega
    · have := hbl k e; omega
  · have := h.vtype ho h1 h2 k hk
    rcases hP k hp with e | e | e
    · exact this.1 e
    · exact this.2 e
    · exact hb k hk e

theorem BkAt.below {w w' : World} {B kb : Nat} {nx : Int} {ps : List Pg} (h : BkAt w B kb nx ps) (hb : Below w.heap.size w w') : BkAt w' B kb nx ps := by
  obtain ⟨h1, vp, h2⟩ := h
  exact ⟨h1, vp, h2.below hb⟩

theorem holds_lt {w : World} {B kb : Nat} {nx : Int} {ps : List Pg} (h : BkAt w B kb nx ps) : ∀ p ∈ ps, ∀ k, holds p k → B ≤ k ∧ k < w.heap.size := by
  obtain ⟨_, vp, h2⟩ := h
  intro p hp k hk
  have := h2.ok p hp
  rcases hk with e | ⟨e, e'⟩ | ⟨e, e'⟩
  · exact this.b.lt k e
  · exact (this.g e).lt k e'
  · exact (this.v e).lt k e'

theorem BkAt.grown {w w' : World} {B kb g : Nat} {nx : Int} {ps : List Pg} (h : BkAt w B kb nx ps) (hg : w.grownBy w' (some g)) (hgB : g < B) : BkAt w' B kb nx ps := by
  have hh := holds_lt h
  obtain ⟨h1, vp, h2⟩ := h
  refine ⟨h1, vp, h2.kept (Kept.ofGrown hg) (fun e => ?_) (fun k hk e => ?_) (fun p hp k hk e => ?_)⟩
  · have := Option.some.inj e; omega
  · have := Option.some.inj e; have := h2.vlt k hk; omega
  · have := Option.some.inj e; have := hh p hp k hk; omega

theorem vp_slice {w : World} {B kb : Nat} {vp : Value} {nx : Int} {ps : List Pg} (h : BookIs w B kb vp nx ps) : ∃ av cv, vp = .slice av ps.length cv := by
  rcases vp_shape h.o with ⟨rfl, h0⟩ | ⟨pk, cp, rfl⟩
  · exact ⟨none, 0, by rw [h0]⟩
  · exact ⟨_, _, rfl⟩

theorem keep_at (B kb : Nat) (nx : Int) (ps : List Pg) (ao : Option Addr) (cap base' : Nat) (X : List Int) (w : World) (h : BkAt w B kb nx ps) (hX : Own w base' (.slice ao X.length cap) X) (hb : B ≤ base') (hn : nx ≤ 800) (hc : ps.length < 96) (hr : ∀ i, 0 ≤ X.getD i 0 ∧ X.getD i 0 ≤ 255) (hlen : X.length ≤ 140737488355264)
    (hs : ∀ k, (Value.slice ao X.length cap).ownBlock = some k → ∀ p ∈ ps, ¬ holds p k) :
    Calls Tryz.prog 15 #[.pointer (some ⟨kb, 0, none⟩), .slice ao X.length cap] w fun e w' => e = .returned (.tuple #[]) ∧ ∃ p, BkAt w' B kb (nx + 1) (ps ++ [p]) ∧ p.gr = p.dn ∧ p.B = .slice ao X.length cap ∧ (∀ k, holds p k → (Value.slice ao X.length cap).ownBlock = some k ∨ w.heap.size ≤ k) ∧ Sp w w' B (fun _ => False) := by
  obtain ⟨h1, vp, h2⟩ := h
  obtain ⟨av, cv, rfl⟩ := vp_slice h2
  refine (keep_walk B kb av cv nx ps ao X.length cap X w h2 (hX.mono hb) hn hc hr hlen rfl (fun p hp k hk e => hs k e p hp (.inl hk)) (fun p hp k hk => hs k hk p hp)).mono ?_
  rintro e w' ⟨rfl, vp', a1, c1, hB, hK, hf⟩
  refine ⟨rfl, _, ⟨h1, vp', hB⟩, rfl, rfl, fun k hk => ?_, sp_of h2 h1 hK (fun j hj => hj.imp id (fun e => .inl e.symm)) (fun j hj => hj.elim)⟩
  rcases hk with e | ⟨e, e'⟩ | ⟨e, e'⟩
  · exact .inl e
  · simp at e
  · exact .inr (hf k e')

theorem write_at (B kb : Nat) (nx : Int) (ps : List Pg) (ao : Option Addr) (cap base' : Nat) (X : List Int) (w : World) (h : BkAt w B kb nx ps) (hX : Own w base' (.slice ao X.length cap) X) (hb : B ≤ base') (hn : nx ≤ 800) (hc : ps.length < 96) (hlen : X.length ≤ 140737488355264)
    (hs : ∀ k, (Value.slice ao X.length cap).ownBlock = some k → ∀ p ∈ ps, ¬ holds p k) :
    Calls Tryz.prog 16 #[.pointer (some ⟨kb, 0, none⟩), .slice ao X.length cap] w fun e w' => e = .returned (.tuple #[]) ∧ ∃ p, BkAt w' B kb (nx + 1) (ps ++ [p]) ∧ p.gr = p.dn ∧ p.B = .slice ao X.length cap ∧ (∀ k, holds p k → (Value.slice ao X.length cap).ownBlock = some k ∨ w.heap.size ≤ k) ∧ Sp w w' B (fun k => (Value.slice ao X.length cap).ownBlock = some k) := by
  obtain ⟨h1, vp, h2⟩ := h
  obtain ⟨av, cv, rfl⟩ := vp_slice h2
  refine (write_walk B kb av cv nx ps ao X.length cap X w h2 (hX.mono hb) hn hc hlen rfl (fun p hp k hk e => hs k e p hp (.inl hk)) (fun p hp k hk => hs k hk p hp)).mono ?_
  rintro e w' ⟨rfl, vp', G, hB, hK, hf⟩
  refine ⟨rfl, _, ⟨h1, vp', hB⟩, rfl, rfl, fun k hk => ?_, sp_of h2 h1 hK (fun j hj => hj.imp id (fun e => e.imp Eq.symm Eq.symm)) (fun j hj => ((hX.mono hb).lt j hj).1)⟩
  rcases hk with e | ⟨e, e'⟩ | ⟨e, e'⟩
  · exact .inl e
  · rcases hf with hf | ⟨g', hf, hl⟩
    · exact .inl (hf.symm.trans e')
    · have e2 : G.ownBlock = some k := e'
      rw [hf] at e2
      obtain rfl := Option.some.inj e2
      exact .inr hl
  · simp at e

theorem settle_at (B kb : Nat) (nx : Int) (ps : List Pg) (w : World) (h : BkAt w B kb nx ps) (hne : 0 < ps.length) (hi : ∀ p ∈ ps, p.gr = p.dn) :
    Calls Tryz.prog 18 #[.pointer (some ⟨kb, 0, none⟩)] w fun e w' => e = .returned (.bool true) ∧ ∃ qs, BkAt w' B kb nx qs ∧ qs.length = ps.length ∧ (∀ q ∈ qs, q.gr = q.dn) ∧ (∀ q ∈ qs, ∀ j, holds q j → (∃ p ∈ ps, holds p j) ∨ w.heap.size ≤ j) ∧ Sp w w' B (fun k => ∃ p ∈ ps, p.B.ownBlock = some k) := by
  have hh := holds_lt h
  obtain ⟨h1, vp, h2⟩ := h
  rcases vp_shape h2.o with ⟨rfl, h0⟩ | ⟨pk, cp, rfl⟩
  · omega
  · refine (settle_some B kb pk cp ps.length nx ps w rfl h2 hi).mono ?_
    rintro e w' ⟨rfl, ⟨qs, hl, hB, hg, hh'⟩, hK⟩
    refine ⟨rfl, qs, ⟨h1, _, hB⟩, hl, hg, hh', sp_of h2 h1 hK (fun j hj => ?_) (fun j ⟨p, hp, e⟩ => (hh p hp j (.inl e)).1)⟩
    rcases hj with e | ⟨p, hp, e⟩
    · subst e; exact .inr (.inl rfl)
    · exact .inr (.inr ⟨p, hp, e.symm⟩)

theorem intact_at (B kb : Nat) (nx : Int) (ps : List Pg) (w : World) (h : BkAt w B kb nx ps) (hi : ∀ p ∈ ps, p.gr = p.dn) :
    Calls Tryz.prog 19 #[.pointer (some ⟨kb, 0, none⟩)] w fun e w' => e = .returned (.bool true) ∧ Below w.heap.size w w' := by
  obtain ⟨h1, vp, h2⟩ := h
  exact intact_any B kb vp nx ps w h2 hi

theorem book_new (w : World) (B : Nat) (hb : B ≤ w.heap.size) : BkAt (w.alloc (.cells #[.slice none 0 0, .slice none 0 0, .int .i64 0] 44)) B w.heap.size 0 [] :=
  ⟨hb, .slice none 0 0, heap_alloc_new w _, World.ownsRow_nil _ _ _ _, by simp, by intro i j p q h; simp at h, by simp; omega, by decide, by decide, by decide⟩

end Go.Proofs.YtjgjpepmfiklfaaGreatDoor.Bk
