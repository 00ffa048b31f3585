import Derived.Test.YtnhhjelplmdloaaZ11
import Derived.Test.YtnhhjelplmdloaaZ18
import Derived.Test.YtnhhjelplmdloaaZ17
import Derived.Test.YtnhhjelplmdloaaZ20
import Derived.Test.YtnhhjelplmdloaaZ25
namespace Go.Proofs.Ytnhhjelplmdloaa.Et
open Go.RowKit Go.Maps
set_option linter.unusedVariables false
set_option linter.unusedSimpArgs false
set_option maxRecDepth 100000
structure Inv (E : En) (K : Nat) : Prop where
  r1 : 1 ≤ E.room ∧ E.room ≤ 20000
  few : (E.fs.length : Int) ≤ E.room
  num : E.fs.length ≤ K
  szE : ∀ f ∈ E.fs, f.n ≤ 40000
  la : 0 ≤ E.last ∧ E.last ≤ K
  ids : (E.fs.map Fx.id).Pairwise (fun a b => a < b)
  idl : ∀ f ∈ E.fs, 1 ≤ f.id ∧ f.id ≤ E.last
  ck : 0 ≤ E.clock ∧ E.clock ≤ K
  due : ∀ f ∈ E.fs, E.clock < f.due ∧ f.due ≤ 16 * (K + 1)
structure Nx (E E1 : En) (K : Nat) : Prop where
  inv : Inv E1 (K + 1)
  b : E1.b = E.b
  nn : E1.nn = E.nn
  room : E1.room = E.room
section
variable {E E1 E' : En} {w w' w1 w2 w3 : World} {B K m : Nat}
theorem RdOps.stay {oa : Option Addr} {n : Nat} {os : Nat → Opx} (ho : RdOps w oa n os) (hb : Below w.heap.size w w') : RdOps w' oa n os :=
  ⟨ho.1.elim (fun hh => Or.inl hh) (fun ⟨b, off, h1, h2⟩ => Or.inr ⟨b, off, h1, fun i hi j hj => by
    obtain ⟨u, hu⟩ := op_cs (os i) j hj
    have h3 := h2 i hi j hj
    rw [hu] at h3 ⊢
    exact below_at hb h3⟩), fun i hi => by
    obtain ⟨⟨bs, q1⟩, ⟨xs, q2⟩, q3⟩ := ho.2 i hi
    exact ⟨⟨bs, q1.still hb⟩, ⟨xs, q2.still hb⟩, q3⟩⟩
theorem Inv.mono {K' : Nat} (h : Inv E K) (hk : K ≤ K') : Inv E K' := ⟨h.r1, h.few, Nat.le_trans h.num hk, h.szE, ⟨h.la.1, by have := h.la.2; omega⟩, h.ids, h.idl, ⟨h.ck.1, by have := h.ck.2; omega⟩, fun f hf => ⟨(h.due f hf).1, by have := (h.due f hf).2; omega⟩⟩
theorem Inv.cong (h : Inv E K) (e1 : E1.room = E.room) (e2 : E1.fs = E.fs) (e3 : E1.last = E.last) (e4 : E1.clock = E.clock) : Inv E1 (K + 1) := by
  have h1 := h.mono (Nat.le_succ K)
  exact ⟨by rw [e1]; exact h1.r1, by rw [e1, e2]; exact h1.few, by rw [e2]; exact h1.num, by rw [e2]; exact h1.szE, by rw [e3]; exact h1.la, by rw [e2]; exact h1.ids, by rw [e2, e3]; exact h1.idl, by rw [e4]; exact h1.ck, by rw [e2, e4]; exact h1.due⟩
theorem nx_none (h : Inv E K) : Nx E E K := ⟨h.mono (Nat.le_succ _), rfl, rfl, rfl⟩
theorem inv_sub (h : Inv E K) (a : Option Addr) (c : Nat) (fs' : List Fx) (hs : fs'.Sublist E.fs) : Inv { E with va := a, vc := c, fs := fs' } (K + 1) := by
  have h1 := h.mono (Nat.le_succ K)
  have hl := hs.length_le
  exact ⟨h1.r1, by have := h1.few; show ((fs'.length : Nat) : Int) ≤ E.room; omega, Nat.le_trans hl h1.num, fun f hf => h1.szE f (hs.subset hf), h1.la, h1.ids.sublist (hs.map Fx.id), fun f hf => h1.idl f (hs.subset hf), h1.ck, fun f hf => h1.due f (hs.subset hf)⟩
theorem wN_is (h : Inv E K) (hK : K ≤ 2199023255551) : wN E = E.last + 1 := by
  have := h.la
  unfold wN
  rw [wrap_eq]
  exact wrap_id (by omega) (by omega)
theorem inv_add (h : Inv E K) (hK : K ≤ 2199023255551) (f : Fx) (a : Option Addr) (c : Nat) (hid : f.id = wN E) (hn : f.n ≤ 40000) (hd1 : E.clock < f.due) (hd2 : f.due ≤ 16 * (K + 1 + 1)) (hl : (E.fs.length : Int) < E.room) : Inv (added E f a c) (K + 1) := by
  have h1 := h.mono (Nat.le_succ K)
  have hw := wN_is h hK
  refine ⟨h1.r1, ?_, ?_, ?_, ?_, ?_, ?_, h1.ck, ?_⟩
  · show ((E.fs ++ [f]).length : Int) ≤ E.room
    simp; omega
  · show (E.fs ++ [f]).length ≤ K + 1
    have := h.num
    simp; omega
  · intro x hx
    rcases List.mem_append.1 hx with hx | hx
    · exact h.szE x hx
    · obtain rfl := List.mem_singleton.1 hx; exact hn
  · show 0 ≤ wN E ∧ wN E ≤ ((K + 1 : Nat) : Int)
    have := h.la
    omega
  · show ((E.fs ++ [f]).map Fx.id).Pairwise _
    rw [List.map_append]
    refine List.pairwise_append.2 ⟨h.ids, List.pairwise_singleton _ _, fun x hx y hy => ?_⟩
    obtain ⟨g, hg, rfl⟩ := List.mem_map.1 hx
    simp at hy
    subst hy
    have := (h.idl g hg).2
    omega
  · intro x hx
    show 1 ≤ x.id ∧ x.id ≤ wN E
    have := h.la
    rcases List.mem_append.1 hx with hx | hx
    · have := h.idl x hx; omega
    · obtain rfl := List.mem_singleton.1 hx; omega
  · intro x hx
    show E.clock < x.due ∧ x.due ≤ 16 * (((K + 1 : Nat) : Int) + 1)
    rcases List.mem_append.1 hx with hx | hx
    · have := h.due x hx; omega
    · obtain rfl := List.mem_singleton.1 hx; omega
theorem inv_set (h : Inv E K) (k : Nat) (hk : k < E.fs.length) (f' : Fx) (hid : f'.id = (E.fs.getD k f0).id) (hn : f'.n = (E.fs.getD k f0).n) (hd1 : E.clock < f'.due) (hd2 : f'.due ≤ 16 * (K + 1 + 1)) : Inv { E with fs := E.fs.set k f' } (K + 1) := by
  have h1 := h.mono (Nat.le_succ K)
  have hm := mem_getD hk
  have hids : (E.fs.set k f').map Fx.id = E.fs.map Fx.id := by
    rw [List.map_set, hid]
    apply List.ext_getElem?
    intro i
    rw [List.getElem?_set]
    split
    · next e =>
      subst e
      simp [List.getD, hk]
    · rfl
  refine ⟨h1.r1, ?_, ?_, ?_, h1.la, ?_, ?_, h1.ck, ?_⟩
  · show ((E.fs.set k f').length : Int) ≤ E.room
    rw [List.length_set]; exact h.few
  · show (E.fs.set k f').length ≤ K + 1
    rw [List.length_set]; exact h1.num
  · intro x hx
    rcases mem_set hx with rfl | hx
    · rw [hn]; exact h.szE _ hm
    · exact h.szE x hx
  · show ((E.fs.set k f').map Fx.id).Pairwise _
    rw [hids]; exact h.ids
  · intro x hx
    rcases mem_set hx with rfl | hx
    · rw [hid]; exact h.idl _ hm
    · exact h.idl x hx
  · intro x hx
    show E.clock < x.due ∧ x.due ≤ 16 * (((K + 1 : Nat) : Int) + 1)
    rcases mem_set hx with rfl | hx
    · exact ⟨hd1, by omega⟩
    · have := h.due x hx; omega
theorem ck_is (h : Inv E K) (hK : K ≤ 2199023255551) : ckN E = E.clock + 1 := by
  have := h.ck
  unfold ckN
  rw [wrap_eq]
  exact wrap_id (by omega) (by omega)
theorem inv_round (h : Inv E K) (hK : K ≤ 2199023255551) : Inv { E with clock := ckN E, fs := E.fs.filter (stays E) } (K + 1) := by
  have hc := ck_is h hK
  have hs : (E.fs.filter (stays E)).Sublist E.fs := List.filter_sublist
  have h2 := inv_sub h E.va E.vc _ hs
  refine ⟨h2.r1, h2.few, h2.num, h2.szE, h2.la, h2.ids, h2.idl, ?_, ?_⟩
  · show 0 ≤ ckN E ∧ ckN E ≤ ((K + 1 : Nat) : Int)
    have := h.ck
    omega
  · intro f hf
    obtain ⟨h3, h4⟩ := List.mem_filter.1 hf
    have h5 : f.due ≠ ckN E := of_decide_eq_true h4
    have h6 := h.due f h3
    show ckN E < f.due ∧ f.due ≤ 16 * (((K + 1 : Nat) : Int) + 1)
    omega
theorem nx_added (h : Inv E K) (hK : K ≤ 2199023255551) (f : Fx) (a : Option Addr) (c : Nat) (hid : f.id = wN E) (hn : f.n ≤ 40000) (hd1 : E.clock < f.due) (hd2 : f.due ≤ 16 * (K + 1 + 1)) (hl : (E.fs.length : Int) < E.room) : Nx E (added E f a c) K := ⟨inv_add h hK f a c hid hn hd1 hd2 hl, rfl, rfl, rfl⟩
def Goes (w w1 : World) (E : En) (B K : Nat) : Prop := ∃ E1 m1, Step w w1 E E1 B m1 ∧ m1 ≤ 256 * (K + 1) ∧ Nx E E1 K
theorem Goes.pre (hb : Below w.heap.size w w1) (s : Goes w1 w2 E B K) : Goes w w2 E B K := by
  obtain ⟨E1, m1, st, hm, hx⟩ := s
  exact ⟨E1, m1, st.pre hb, hm, hx⟩
theorem Goes.post (s : Goes w w1 E B K) (hb : Below w1.heap.size w1 w2) : Goes w w2 E B K := by
  obtain ⟨E1, m1, st, hm, hx⟩ := s
  exact ⟨E1, m1, st.post hb, hm, hx⟩
end
end Go.Proofs.Ytnhhjelplmdloaa.Et
namespace Go.Proofs.Ytnhhjelplmdloaa.Et
open Go.RowKit Go.Maps
set_option linter.unusedVariables false
set_option linter.unusedSimpArgs false
set_option maxRecDepth 100000
section
variable {E E1 E' : En} {w w' w1 w2 w3 : World} {B K m : Nat}
end
end Go.Proofs.Ytnhhjelplmdloaa.Et
