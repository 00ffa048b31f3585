import Derived.Test.YtjgjpepmfiklfaaGreatDoorLoose
import Derived.Deep.RegionHeld3
import Derived.Deep.AppendLies
import Derived.ArgAppend
namespace Go.Proofs.YtjgjpepmfiklfaaGreatDoor.Bk
open Go.RowKit Lo
set_option linter.unusedVariables false

def pats (id : Int) (n : Nat) : List Int := (List.range n).map fun (i : Nat) => pat id (i : Int)
theorem pats_len (id : Int) (n : Nat) : (pats id n).length = n := by simp [pats]
theorem pats_succ (id : Int) (n : Nat) : pats id (n + 1) = pats id n ++ [pat id (n : Int)] := by simp [pats, List.range_succ]
theorem pats_get (id : Int) (n i : Nat) (h : i < n) : (pats id n).getD i 0 = pat id (i : Int) := by simp [pats, List.getD, h]
theorem pats_range (id : Int) (n : Nat) : ∀ i, 0 ≤ (pats id n).getD i 0 ∧ (pats id n).getD i 0 ≤ 255 := by
  intro i
  by_cases h : i < n
  · rw [pats_get id n i h]; exact pat_range _ _
  · have e : (pats id n).getD i 0 = 0 := by simp only [List.getD]; rw [List.getElem?_eq_none (by rw [pats_len]; omega)]; rfl
    rw [e]; omega

structure Kept (w w' : World) (P : Nat → Prop) : Prop where
  os : w'.os = w.os
  tape : w'.tape = w.tape
  output : w'.output = w.output
  size : w.heap.size ≤ w'.heap.size
  block : ∀ k, k < w.heap.size → ¬ P k → w'.heap[k]? = w.heap[k]?

theorem Kept.refl (w : World) (P : Nat → Prop) : Kept w w P := ⟨rfl, rfl, rfl, Nat.le_refl _, fun _ _ _ => rfl⟩
theorem Kept.trans {a b c : World} {P : Nat → Prop} (h : Kept a b P) (k : Kept b c P) : Kept a c P :=
  ⟨k.os.trans h.os, k.tape.trans h.tape, k.output.trans h.output, Nat.le_trans h.size k.size, fun i hi hp => (k.block i (Nat.lt_of_lt_of_le hi h.size) hp).trans (h.block i hi hp)⟩
theorem Kept.drew {a b : World} {P : Nat → Prop} (h : Kept a b P) : Kept a b.drew P := ⟨h.os, h.tape, h.output, h.size, h.block⟩
theorem Kept.mono {a b : World} {P Q : Nat → Prop} (h : Kept a b P) (hq : ∀ k, k < a.heap.size → P k → Q k) : Kept a b Q :=
  ⟨h.os, h.tape, h.output, h.size, fun i hi hp => h.block i hi (fun hP => hp (hq i hi hP))⟩
theorem Kept.ofGrown {a b : World} {r : Option Nat} (h : a.grownBy b r) : Kept a b (fun k => some k = r) := ⟨h.os, h.tape, h.output, h.size, fun i hi hp => h.block i hi hp⟩
theorem Kept.ofBelow {a b : World} (h : Below a.heap.size a b) (P : Nat → Prop) : Kept a b P := ⟨h.os, h.tape, h.output, h.size, fun i hi _ => h.block i hi⟩
theorem Kept.below {a b : World} {P : Nat → Prop} {B : Nat} (h : Kept a b P) (hB : B ≤ a.heap.size) (hp : ∀ k, k < B → ¬ P k) : Below B a b := ⟨h.os, h.tape, h.output, h.size, fun i hi => h.block i (by omega) (hp i hi)⟩
theorem Kept.owns {a b : World} {P : Nat → Prop} {base e size n : Nat} {v : Value} {xs : List Value} (h : Kept a b P) (ho : a.ownsRow base e size v n xs) (hp : ∀ k, v.ownBlock = some k → ¬ P k) : b.ownsRow base e size v n xs := by
  refine ⟨ho.1, ?_⟩
  have hlt := ho.lt
  rcases ho.2 with h1 | ⟨g, cap, cur, hv, hg, hh, hr⟩
  · exact .inl h1
  · subst hv
    exact .inr ⟨g, cap, cur, rfl, hg, (h.block g (hlt g rfl).2 (hp g rfl)).trans hh, hr⟩

theorem cell_block {w : World} {g j : Nat} {cur : Array Value} {t : TypeId} {fz : Nat × Nat} (h : w.heap[g]? = some (.cells cur t fz)) : w.cell? ⟨g, j, none⟩ = cur[j]? := cell_of_row w g j cur t fz h

theorem lt_heap {w : World} {k : Nat} {o : Obj} (h : w.heap[k]? = some o) : k < w.heap.size := by
  rcases Array.getElem?_eq_some_iff.1 h with ⟨h, _⟩; exact h

theorem own_notType {w : World} {base pb : Nat} {v : Value} {bs : List Int} {cur : Array Value} {t : TypeId} {fz : Nat × Nat} (h : Own w base v bs) (hp : w.heap[pb]? = some (.cells cur t fz)) (ht : t ≠ 5) : some pb ≠ v.ownBlock := by
  intro e
  rcases h.2 with ⟨rfl, _⟩ | ⟨g, cap, c2, rfl, _, hg, _⟩
  · simp [Value.ownBlock] at e
  · simp [Value.ownBlock] at e
    subst e
    rw [hg] at hp
    simp at hp
    exact ht hp.2.1.symm

def fillTo (id : Int) (k : Nat) (bs : List Int) : List Int := pats id k ++ bs.drop k
theorem fillTo_len (id : Int) (k : Nat) (bs : List Int) (h : k ≤ bs.length) : (fillTo id k bs).length = bs.length := by simp [fillTo, pats_len]; omega
theorem fillTo_all (id : Int) (bs : List Int) : fillTo id bs.length bs = pats id bs.length := by simp [fillTo]
theorem fillTo_set (id : Int) (k : Nat) (bs : List Int) (h : k < bs.length) : (fillTo id k bs).set k (pat id (k : Int)) = fillTo id (k + 1) bs := by
  apply List.ext_getElem
  · rw [List.length_set, fillTo_len _ _ _ (by omega), fillTo_len _ _ _ (by omega)]
  · intro i h1 h2
    rw [List.getElem_set]
    have hl : i < bs.length := by rw [fillTo_len _ _ _ (by omega)] at h2; exact h2
    by_cases e : k = i
    · subst e
      rw [if_pos rfl]
      have : (fillTo id (k + 1) bs)[k]? = some (pat id (k : Int)) := by
        unfold fillTo
        rw [List.getElem?_append_left (by rw [pats_len]; omega)]
        simp [pats]
      rw [List.getElem?_eq_getElem h2] at this
      exact (Option.some.inj this).symm
    · rw [if_neg e]
      have e1 : (fillTo id k bs)[i]? = (fillTo id (k + 1) bs)[i]? := by
        unfold fillTo
        by_cases hi : i < k
        · rw [List.getElem?_append_left (by rw [pats_len]; omega), List.getElem?_append_left (by rw [pats_len]; omega)]
          simp [pats, hi, show i < k + 1 by omega]
        · rw [List.getElem?_append_right (by rw [pats_len]; omega), List.getElem?_append_right (by rw [pats_len]; omega), pats_len, pats_len, List.getElem?_drop, List.getElem?_drop]
          congr 1
          omega
      rw [List.getElem?_eq_getElem (by rw [fillTo_len _ _ _ (by omega)]; exact hl), List.getElem?_eq_getElem h2] at e1
      exact Option.some.inj e1

theorem fill_store {w wr : World} {base g cap k : Nat} {id : Int} {bs : List Int} (h : Own wr base (.slice (some ⟨g, 0, none⟩) bs.length cap) (fillTo id k bs)) (hk : k < bs.length) (hg : Kept w wr (fun j => some j = some g)) :
    Own (wr.setCell ⟨g, k, none⟩ (.int .u8 (pat id (k : Int)))) base (.slice (some ⟨g, 0, none⟩) bs.length cap) (fillTo id (k + 1) bs) ∧ Kept w (wr.setCell ⟨g, k, none⟩ (.int .u8 (pat id (k : Int)))) (fun j => some j = some g) ∧ (∀ j, j ≠ g → (wr.setCell ⟨g, k, none⟩ (.int .u8 (pat id (k : Int)))).heap[j]? = wr.heap[j]?) := by
  have hl := fillTo_len id k bs (by omega)
  have hl2 := fillTo_len id (k + 1) bs (by omega)
  have h' : wr.ownsRow base 5 1 (.slice (some ⟨g, 0, none⟩) bs.length cap) bs.length ((fillTo id k bs).map (Value.int .u8)) := by
    have := h; unfold Own at this; rw [hl] at this; exact this
  have hs := World.ownsRow.stored h' k (.int .u8 (pat id (k : Int)))
  refine ⟨?_, hg.trans (Kept.ofGrown hs.2), fun j hj => ?_⟩
  · unfold Own
    rw [hl2]
    have e : ((fillTo id k bs).map (Value.int .u8)).set k (.int .u8 (pat id (k : Int))) = (fillTo id (k + 1) bs).map (Value.int .u8) := by
      rw [← List.map_set, fillTo_set id k bs hk]
    have hs1 := hs.1
    rw [e] at hs1
    exact hs1
  · exact Below.heap_setCell wr ⟨g, k, none⟩ _ j hj

theorem fill_end {w wr : World} {base g cap pb po : Nat} {id : Int} {bs : List Int} {cur : Array Value} {t : TypeId} {v : Value} (ho : Own wr base (.slice (some ⟨g, 0, none⟩) bs.length cap) (fillTo id bs.length bs)) (hk : Kept w wr (fun j => some j = some g)) (hp : wr.heap[pb]? = some (.cells cur t (0, 0))) (hne : pb ≠ g) :
    Own (wr.setCell ⟨pb, po, none⟩ v) base (.slice (some ⟨g, 0, none⟩) bs.length cap) (pats id bs.length) ∧ (wr.setCell ⟨pb, po, none⟩ v).heap[pb]? = some (.cells (cur.setIfInBounds po v) t (0, 0)) ∧ Kept w (wr.setCell ⟨pb, po, none⟩ v) (fun j => j = pb ∨ some j = some g) := by
  have hs : Kept wr (wr.setCell ⟨pb, po, none⟩ v) (fun j => j = pb) := ⟨rfl, rfl, rfl, by simp, fun j hj hp => Below.heap_setCell wr ⟨pb, po, none⟩ v j hp⟩
  rw [fillTo_all] at ho
  refine ⟨hs.owns ho (fun k hk => by simp [Value.ownBlock] at hk; omega), heap_setCell_same wr pb po cur t v hp, (hk.mono (fun _ _ h => .inr h)).trans (hs.mono (fun _ _ h => .inl h))⟩

set_option maxRecDepth 100000 in
set_option maxHeartbeats 2000000 in
theorem fill_some (pb po : Nat) (cur : Array Value) (g cap base : Nat) (bs : List Int) (id : Int) (dn : Bool) (w : World) (hB : Own w base (.slice (some ⟨g, 0, none⟩) bs.length cap) bs) (hp : w.heap[pb]? = some (.cells cur 75 (0, 0)))
    (c0 : cur[po]? = some (.slice (some ⟨g, 0, none⟩) bs.length cap)) (c3 : cur[po + 3]? = some (.int .i64 id)) (c4 : cur[po + 4]? = some (.bool dn)) (h0 : 0 ≤ id) (h1 : id ≤ 10000000) (hlen : bs.length ≤ 140737488355328) :
    Calls Tryz.prog 37 #[.pointer (some ⟨pb, po, none⟩)] w fun e w' => e = .returned (.tuple #[]) ∧ Own w' base (.slice (some ⟨g, 0, none⟩) bs.length cap) (pats id bs.length) ∧ w'.heap[pb]? = some (.cells (cur.setIfInBounds (po + 4) (.bool true)) 75 (0, 0)) ∧ Kept w w' (fun j => j = pb ∨ some j = some g) := by
  have hne : pb ≠ g := fun e => by
    have := own_notType hB hp (by decide)
    simp [Value.ownBlock] at this
    exact this e
  go_enter Tryz.func37, Tryz.ntmps37
  go_wp2
  go_loopw [2] (fun i wr => ∃ k : Nat, k ≤ bs.length ∧ i = .int .i64 k ∧ Own wr base (.slice (some ⟨g, 0, none⟩) bs.length cap) (fillTo id k bs) ∧ Kept w wr (fun j => some j = some g)) (fun i _ => bs.length - (intOf i).toNat)
  case atStart => exact ⟨0, Nat.zero_le _, rfl, by simpa [fillTo, pats] using hB, Kept.refl _ _⟩
  case round =>
    obtain ⟨k, hk, rfl, ho, hkp⟩ := hrel
    have hpb : wr.heap[pb]? = some (.cells cur 75 (0, 0)) := (hkp.block pb (lt_heap hp) (by simp; omega)).trans hp
    have d0 : wr.cell? ⟨pb, po, none⟩ = some (.slice (some ⟨g, 0, none⟩) bs.length cap) := (cell_block hpb).trans c0
    have d3 : wr.cell? ⟨pb, po + 3, none⟩ = some (.int .i64 id) := (cell_block hpb).trans c3
    by_cases hlt : k < bs.length
    · have hfl := fillTo_len id k bs (by omega)
      have hcell := ho.cellAll k (by omega)
      have hfz : wr.frozen? ⟨g, k, none⟩ = false := by
        have ho' := ho
        unfold Own at ho'
        rw [hfl] at ho'
        exact World.ownsRow.frozenAt ho' k
      rw [Nat.zero_add] at hcell
      have HT := fill_store ho hlt hkp
      have HT' : Hid (Own (wr.setCell ⟨g, k, none⟩ (.int .u8 (pat id (k : Int)))) base (.slice (some ⟨g, 0, none⟩) bs.length cap) (fillTo id (k + 1) bs) ∧ Kept w (wr.setCell ⟨g, k, none⟩ (.int .u8 (pat id (k : Int)))) (fun j => some j = some g)) := ⟨HT.1, HT.2.1⟩
      clear HT ho hkp hpb hB c0 c3 c4 hp
      generalize (fillTo id k bs).getD k 0 = x at *
      have i1 : (0 : Int) ≤ (k : Int) := Int.natCast_nonneg _
      have i2 : (k : Int) < (bs.length : Int) := by omega
      have s0 : ∀ v, (wr.setCell ⟨g, k, none⟩ v).cell? ⟨pb, po, none⟩ = some (.slice (some ⟨g, 0, none⟩) bs.length cap) := fun v => (World.cell?_setCell_other wr ⟨g, k, none⟩ ⟨pb, po, none⟩ v (by intro e; simp at e)).trans d0
      have s3 : ∀ v, (wr.setCell ⟨g, k, none⟩ v).cell? ⟨pb, po + 3, none⟩ = some (.int .i64 id) := fun v => (World.cell?_setCell_other wr ⟨g, k, none⟩ ⟨pb, po + 3, none⟩ v (by intro e; simp at e)).trans d3
      go_wp2_with fail
      go_region_held3 (fun w' => w'.cell? ⟨pb, po, none⟩ = some (.slice (some ⟨g, 0, none⟩) bs.length cap) ∧ w'.cell? ⟨pb, po + 3, none⟩ = some (.int .i64 id)) (go_keep)
        ((go_at_call 33; refine (pat_any _ _ _ h0 h1 i1 (by omega)).mono ?_; rintro e w' ⟨rfl, rfl⟩))
      clear s0 s3 d0 d3 hcell hfz
      go_wp2
      go_roundw
      case rel => exact ⟨k + 1, by omega, by go_num, HT'.out.1, HT'.out.2.drew⟩
      case measure => simp [intOf]; omega
    · obtain rfl : k = bs.length := by omega
      have d4 : wr.cell? ⟨pb, po + 4, none⟩ = some (.bool dn) := (cell_block hpb).trans c4
      have hfz : wr.frozen? ⟨pb, po + 4, none⟩ = false := frozen_of_row wr pb (po + 4) cur 75 hpb
      have HR : Hid (Own (wr.setCell ⟨pb, po + 4, none⟩ (.bool true)) base (.slice (some ⟨g, 0, none⟩) bs.length cap) (pats id bs.length) ∧ (wr.setCell ⟨pb, po + 4, none⟩ (.bool true)).heap[pb]? = some (.cells (cur.setIfInBounds (po + 4) (.bool true)) 75 (0, 0)) ∧ Kept w (wr.setCell ⟨pb, po + 4, none⟩ (.bool true)) (fun j => j = pb ∨ some j = some g)) := fill_end ho hkp hpb hne
      clear ho hkp hB hp hpb d3
      go_wp2
      go_end0
      exact ⟨rfl, HR.out⟩

theorem fill_none (pb po : Nat) (cur : Array Value) (id : Int) (dn : Bool) (w : World) (hp : w.heap[pb]? = some (.cells cur 75 (0, 0)))
    (c0 : cur[po]? = some (.slice none 0 0)) (c4 : cur[po + 4]? = some (.bool dn)) :
    Calls Tryz.prog 37 #[.pointer (some ⟨pb, po, none⟩)] w fun e w' => e = .returned (.tuple #[]) ∧ w'.heap[pb]? = some (.cells (cur.setIfInBounds (po + 4) (.bool true)) 75 (0, 0)) ∧ Kept w w' (fun j => j = pb) := by
  have d0 : w.cell? ⟨pb, po, none⟩ = some (.slice none 0 0) := (cell_block hp).trans c0
  have d4 : w.cell? ⟨pb, po + 4, none⟩ = some (.bool dn) := (cell_block hp).trans c4
  have hfz : w.frozen? ⟨pb, po + 4, none⟩ = false := frozen_of_row w pb (po + 4) cur 75 hp
  have HR : Hid ((w.setCell ⟨pb, po + 4, none⟩ (.bool true)).heap[pb]? = some (.cells (cur.setIfInBounds (po + 4) (.bool true)) 75 (0, 0)) ∧ Kept w (w.setCell ⟨pb, po + 4, none⟩ (.bool true)) (fun j => j = pb)) :=
    ⟨heap_setCell_same w pb (po + 4) cur 75 _ hp, ⟨rfl, rfl, rfl, by simp, fun j hj hq => Below.heap_setCell w ⟨pb, po + 4, none⟩ _ j hq⟩⟩
  clear hp
  go_enter Tryz.func37, Tryz.ntmps37
  go_wp2
  refine wp_loop_rounds 1 ?_
  rw [rounds_succ]
  go_wp2
  go_end0
  exact ⟨rfl, HR.out⟩

theorem fill_any (pb po : Nat) (cur : Array Value) (B : Value) (base : Nat) (bs : List Int) (id : Int) (dn : Bool) (w : World) (hB : Own w base B bs) (hp : w.heap[pb]? = some (.cells cur 75 (0, 0)))
    (c0 : cur[po]? = some B) (c3 : cur[po + 3]? = some (.int .i64 id)) (c4 : cur[po + 4]? = some (.bool dn)) (h0 : 0 ≤ id) (h1 : id ≤ 10000000) (hlen : bs.length ≤ 140737488355328) :
    Calls Tryz.prog 37 #[.pointer (some ⟨pb, po, none⟩)] w fun e w' => e = .returned (.tuple #[]) ∧ Own w' base B (pats id bs.length) ∧ w'.heap[pb]? = some (.cells (cur.setIfInBounds (po + 4) (.bool true)) 75 (0, 0)) ∧ Kept w w' (fun j => j = pb ∨ some j = B.ownBlock) := by
  have hB2 := hB.2
  rcases hB2 with ⟨rfl, h2⟩ | ⟨g, cap, c2, rfl, _⟩
  · obtain rfl : bs = [] := List.eq_nil_of_length_eq_zero h2
    refine (fill_none pb po cur id dn w hp c0 c4).mono fun e w' h => ⟨h.1, World.ownsRow_nil _ _ _ _, h.2.1, h.2.2.mono (fun _ _ h => .inl h)⟩
  · exact fill_some pb po cur g cap base bs id dn w hB hp c0 c3 c4 h0 h1 hlen

theorem owns_prefix {w : World} {base e g cap n m : Nat} {xs ys : List Value} (h : w.ownsRow base e 1 (.slice (some ⟨g, 0, none⟩) (n + m) cap) (n + m) (xs ++ ys)) (hx : xs.length = n) : w.ownsRow base e 1 (.slice (some ⟨g, 0, none⟩) n cap) n xs := by
  refine ⟨by omega, ?_⟩
  rcases h.2 with ⟨h1, _⟩ | ⟨g', cap', cur, hv, hb, hg, hn, hc, hs, ht⟩
  · simp at h1
  · simp only [Value.slice.injEq, Option.some.injEq, Addr.mk.injEq, and_true, true_and] at hv
    obtain ⟨rfl, rfl⟩ := hv
    refine .inr ⟨g, cap, cur, rfl, hb, hg, by omega, hc, hs, ?_⟩
    have : cur.toList.take (n * 1) = (cur.toList.take ((n + m) * 1)).take (n * 1) := by rw [List.take_take]; congr 1; omega
    rw [this, ht, List.take_append_of_le_length (by omega), List.take_of_length_le (by omega)]

theorem wpList_append_keep {P : Program} (w : World) {ops : Array Oper} {rest : List Oper} {o : Oper} {a : Act} {Q : Exit → Act → World → Prop} (hgd : o.guard = none) (s x : Operand) (t : TypeId)
    (ho : o.op = Op.call { callee := Callee.builtin Builtin.append, args := #[s, x], argTypes := #[t, t] })
    (base : Nat) (e : TypeId) (i : TypeInfo) (z : Value) (bytes : Nat) (ht : P.underlying t = some (.slice e)) (hi : P.info? e = some i) (hz : i.zero = some z)
    (hsize : i.size = 1) (hby : i.bytes = bytes) (hzs : z.cells.size = 1)
    (v : Value) (n : Nat) (xs : List Value) (hs : a.eval s = v) (hown : w.ownsRow base e 1 v n xs)
    (ad : Addr) (m c : Nat) (news : List Value) (hx : a.eval x = .slice (some ad) m c) (hl : news.length = m) (hnews : ∀ j u, news[j]? = some u → w.cell? (ad.add j) = some u) (h1 : ∀ u ∈ news, u.oneCell' = true) (hm : 0 < m)
    (h63 : n + m ≤ maxLen) (hbytes : (n + m) * bytes ≤ 140737488355328) (hbase : base ≤ w.heap.size)
    (h : ∀ v' w', w'.ownsRow base e 1 v' (n + m) (xs ++ news) → w'.ownsRow base e 1 v n xs → Kept w w' (fun j => some j = v.ownBlock) → (v'.ownBlock = v.ownBlock ∨ ∃ g', v'.ownBlock = some g' ∧ w.heap.size ≤ g') → wpList P ops Q rest (a.put o.dst v') w') : wpList P ops Q (o :: rest) a w := by
  have hx1 : xs.length = n := by have := hown.1; omega
  have big : ∀ v' w', w'.ownsRow w.heap.size e 1 v' (n + m) (xs ++ news) → w.grownBy w' none → w'.ownsRow base e 1 v' (n + m) (xs ++ news) ∧ w'.ownsRow base e 1 v n xs ∧ Kept w w' (fun j => some j = v.ownBlock) ∧ (v'.ownBlock = v.ownBlock ∨ ∃ g', v'.ownBlock = some g' ∧ w.heap.size ≤ g') := by
    intro v' w' h2 h3
    have hk : Kept w w' (fun _ => False) := ⟨h3.os, h3.tape, h3.output, h3.size, fun i hi _ => h3.block i hi (by simp)⟩
    refine ⟨?_, hk.owns hown (fun _ _ h => h), hk.mono (fun _ _ h => h.elim), ?_⟩
    · refine ⟨h2.1, ?_⟩
      rcases h2.2 with h | ⟨g, cap, cur, hv, hg, h⟩
      · exact .inl h
      · exact .inr ⟨g, cap, cur, hv, by omega, h⟩
    · rcases h2.2 with ⟨_, h⟩ | ⟨g, cap, cur, hv, hg, h⟩
      · omega
      · exact .inr ⟨g, by rw [hv]; rfl, hg⟩
  rcases hown.2 with ⟨rfl, rfl⟩ | ⟨g, cap, cur, rfl, hbg, hg, hnc, hcm, hcs, htake⟩
  · refine wpList_append_grows w hgd s x t ho e i z 1 bytes ht hi hz hsize hby hzs (by decide) none 0 0 xs hs (fun _ => ⟨rfl, rfl⟩) (by omega) (fun b hb => by cases hb) ad m c news hx (by omega) hnews h1 (by omega) h63 hbytes fun v' w' h2 h3 => ?_
    have := big v' w' h2 h3
    exact h v' w' this.1 this.2.1 this.2.2.1 this.2.2.2
  · by_cases hroom : n + m ≤ cap
    · refine wpList_append_fits w hgd s x t ho base e i 1 ht hi hsize g n cap xs hs hown ad m c news hx (by omega) hnews h1 hroom fun w' h2 h3 => ?_
      exact h _ w' h2 (owns_prefix h2 hx1) (Kept.ofGrown h3) (.inl rfl)
    · refine wpList_append_grows w hgd s x t ho e i z 1 bytes ht hi hz hsize hby hzs (by decide) (some ⟨g, 0, none⟩) n cap xs hs (by simp) (by omega) (fun b hb => by obtain rfl := Option.some.inj hb; exact hown.cells rfl) ad m c news hx (by omega) hnews h1 (by omega) h63 hbytes fun v' w' h2 h3 => ?_
      have := big v' w' h2 h3
      exact h v' w' this.1 this.2.1 this.2.2.1 this.2.2.2

theorem own_pats {w' : World} {base k n : Nat} {v' : Value} {id : Int} (hn : n = k + 1) (h : w'.ownsRow base 5 1 v' n ((pats id k).map (Value.int .u8) ++ [.int .u8 (pat id (k : Int))])) : Own w' base v' (pats id (k + 1)) := by
  unfold Own
  rw [pats_succ]
  subst hn
  simpa [pats_len] using h

theorem kept_push {w wr w' : World} {base : Nat} {v : Value} {bs : List Int} {o : Obj} (hb : base ≤ wr.heap.size) (hbel : Below wr.heap.size wr wr) (ho : Own wr base v bs) (hg : (wr.alloc o).grownBy w' v.ownBlock) : Kept wr w' (fun j => some j = v.ownBlock) :=
  (Kept.ofBelow ((Below.refl _ _).alloc (Nat.le_refl _) o) _).trans (Kept.ofGrown hg)

theorem grow_end {w w3 : World} {pb po base : Nat} {cur : Array Value} {B G : Value} {bs gs : List Int} {t : TypeId} (hB : Own w3 base B bs) (hG : Own w3 base G gs) (hp : w3.heap[pb]? = some (.cells cur t (0, 0))) (hk : Kept w w3 (fun j => some j = B.ownBlock)) (ht : t ≠ 5) (v : Value) :
    Own (w3.setCell ⟨pb, po, none⟩ v) base B bs ∧ Own (w3.setCell ⟨pb, po, none⟩ v) base G gs ∧ (w3.setCell ⟨pb, po, none⟩ v).heap[pb]? = some (.cells (cur.setIfInBounds po v) t (0, 0)) ∧ Kept w (w3.setCell ⟨pb, po, none⟩ v) (fun j => j = pb ∨ some j = B.ownBlock) := by
  have hs : Kept w3 (w3.setCell ⟨pb, po, none⟩ v) (fun j => j = pb) := ⟨rfl, rfl, rfl, by simp, fun j hj hp => Below.heap_setCell w3 ⟨pb, po, none⟩ v j hp⟩
  refine ⟨hs.owns hB (fun k hk e => own_notType hB hp ht (by rw [← e, hk])), hs.owns hG (fun k hk e => own_notType hG hp ht (by rw [← e, hk])), heap_setCell_same w3 pb po cur t v hp, (hk.mono (fun _ _ h => .inr h)).trans (hs.mono (fun _ _ h => .inl h))⟩

set_option maxRecDepth 100000 in
set_option maxHeartbeats 2000000 in
theorem grow_any (pb po : Nat) (cur : Array Value) (B : Value) (base : Nat) (bs : List Int) (id : Int) (G0 : Value) (w : World) (hB : Own w base B bs) (hb : base ≤ w.heap.size) (hp : w.heap[pb]? = some (.cells cur 75 (0, 0)))
    (c0 : cur[po]? = some B) (c1 : cur[po + 1]? = some G0) (c3 : cur[po + 3]? = some (.int .i64 id)) (h0 : 0 ≤ id) (h1 : id ≤ 1000000) (hlen : bs.length ≤ 140737488355264) :
    Calls Tryz.prog 38 #[.pointer (some ⟨pb, po, none⟩)] w fun e w' => e = .returned (.tuple #[]) ∧ ∃ G, Own w' base B bs ∧ Own w' base G (bs ++ pats (id + 100000) 64) ∧ w'.heap[pb]? = some (.cells (cur.setIfInBounds (po + 1) G) 75 (0, 0)) ∧ Kept w w' (fun j => j = pb ∨ some j = B.ownBlock) ∧ (G.ownBlock = B.ownBlock ∨ ∃ g', G.ownBlock = some g' ∧ w.heap.size ≤ g') := by
  obtain ⟨i0, hi, hz0, hz1, hz2⟩ := info_parts info_u8
  have HB : Hid (Own w base B bs) := hB
  have HP : Hid (w.heap[pb]? = some (.cells cur 75 (0, 0))) := hp
  have HC0 : Hid (cur[po]? = some B) := c0
  have HC1 : Hid (cur[po + 1]? = some G0) := c1
  have HC3 : Hid (cur[po + 3]? = some (.int .i64 id)) := c3
  clear hB hp c0 c1 c3
  go_enter Tryz.func38, Tryz.ntmps38
  go_wp2
  go_loopw [2, 3] (fun v i wr => ∃ k : Nat, k ≤ 64 ∧ i = .int .i64 k ∧ Own wr w.heap.size v (pats (id + 100000) k) ∧ Below w.heap.size w wr) (fun _ i _ => 64 - (intOf i).toNat)
  case atStart => exact ⟨0, Nat.zero_le _, rfl, World.ownsRow_nil _ _ _ _, Below.refl _ _⟩
  case round =>
    obtain ⟨k, hk, rfl, ho, hbel⟩ := hrel
    have hml := pats_len (id + 100000) k
    have hpb : wr.heap[pb]? = some (.cells cur 75 (0, 0)) := (hbel.block pb (lt_heap HP.out)).trans HP.out
    by_cases hlt : k < 64
    · have d3 : wr.cell? ⟨pb, po + 3, none⟩ = some (.int .i64 id) := (cell_block hpb).trans HC3.out
      clear hpb
      go_wp2_with (first
        | (go_at_call 33; refine (pat_any _ _ _ (by omega) (by omega) (by omega) (by omega)).mono ?_; rintro e w' ⟨rfl, rfl⟩)
        | (at_builtin; refine wpList_append_own _ rfl _ _ 24 rfl w.heap.size 5 i0 (.int .u8 0) 1 1 Tryz.underlying24 hi hz0 hz1 hz2 rfl (by decide) _ _ _ rfl (ho.alloc _) ⟨wr.heap.size, 0, none⟩ 1 1 [.int .u8 (pat (id + 100000) (k : Int))] rfl rfl ?d1 ?d2 ?d3 ?d4 ?d5 ?_)
        | fail)
      case d1 => exact cell_one_new _ _ _
      case d2 => intro x hx; simp at hx; subst hx; rfl
      case d3 => rw [hml]; unfold maxLen; omega
      case d4 => rw [hml]; omega
      case d5 => have := hbel.size; simp; omega
      intro v3 w3 hown3 hgrow3 _
      have HO3 : Hid (Own w3 w.heap.size v3 (pats (id + 100000) (k + 1))) := own_pats (by omega) hown3
      have HB3 : Hid (Below w.heap.size w w3) := below_push hbel (by have := hbel.size; omega) ho hgrow3
      clear hown3 hgrow3 ho hbel
      go_wp2
      go_roundw
      case rel => exact ⟨k + 1, by omega, by go_num, HO3, HB3⟩
      case measure => simp [intOf]; omega
    · obtain rfl : k = 64 := by omega
      obtain ⟨at', ct, rfl, hrt⟩ := ho.rdAny (pats_range _ _)
      rw [pats_len] at hrt ⊢
      have d0 : wr.cell? ⟨pb, po, none⟩ = some B := (cell_block hpb).trans HC0.out
      have hBr : Own wr base B bs := owns_below HB.out hbel
      rcases hrt.2.2.1 with h | ⟨tb, to', rfl, hct⟩
      · omega
      have Hnews : Hid (∀ j v, ((pats (id + 100000) 64).map (Value.int .u8))[j]? = some v → wr.cell? ((⟨tb, to', none⟩ : Addr).add j) = some v) := hrt.cells (Below.refl _ _) _ rfl
      have HBr : Hid (Own wr base B bs) := hBr
      have Hpb : Hid (wr.heap[pb]? = some (.cells cur 75 (0, 0))) := hpb
      have Hbel : Hid (Below w.heap.size w wr) := hbel
      have hsz := hbel.size
      clear hBr hpb hbel ho hrt hct hml
      go_wp2_with (first
        | (at_builtin; refine wpList_append_keep _ rfl _ _ 24 rfl base 5 i0 (.int .u8 0) 1 Tryz.underlying24 hi hz0 hz1 hz2 rfl _ _ _ rfl HBr.out _ _ _ ((pats (id + 100000) 64).map (Value.int .u8)) rfl (by simp [pats_len]) Hnews.out (bytes_oneCell _) (by decide) ?e1 ?e2 ?e3 ?_)
        | fail)
      case e1 => unfold maxLen; omega
      case e2 => omega
      case e3 => omega
      intro v3 w3 hG hB3 hk3 hloc
      have hpb3 : w3.heap[pb]? = some (.cells cur 75 (0, 0)) := (hk3.block pb (lt_heap Hpb.out) (own_notType HBr.out Hpb.out (by decide))).trans Hpb.out
      have hG3 : Own w3 base v3 (bs ++ pats (id + 100000) 64) := by
        have h := hG
        unfold Own
        simpa [pats_len] using h
      have HE := grow_end (po := po + 1) hB3 hG3 hpb3 ((Kept.ofBelow Hbel.out _).trans hk3) (by decide) v3
      have HE' : Hid (Own (w3.setCell ⟨pb, po + 1, none⟩ v3) base B bs ∧ Own (w3.setCell ⟨pb, po + 1, none⟩ v3) base v3 (bs ++ pats (id + 100000) 64) ∧ (w3.setCell ⟨pb, po + 1, none⟩ v3).heap[pb]? = some (.cells (cur.setIfInBounds (po + 1) v3) 75 (0, 0)) ∧ Kept w (w3.setCell ⟨pb, po + 1, none⟩ v3) (fun j => j = pb ∨ some j = B.ownBlock)) := HE
      have d1 : w3.cell? ⟨pb, po + 1, none⟩ = some G0 := (cell_block hpb3).trans HC1.out
      have hfz : w3.frozen? ⟨pb, po + 1, none⟩ = false := frozen_of_row w3 pb (po + 1) cur 75 hpb3
      have hsl : ∃ a3 c3, v3 = .slice a3 (bs.length + 64) c3 := by
        rcases hG.2 with ⟨_, h⟩ | ⟨g, cap, c2, hv, _⟩
        · omega
        · exact ⟨_, _, hv⟩
      have Hloc : Hid (v3.ownBlock = B.ownBlock ∨ ∃ g', v3.ownBlock = some g' ∧ w.heap.size ≤ g') := by
        rcases hloc with h | ⟨g', h, h'⟩
        · exact .inl h
        · exact .inr ⟨g', h, by omega⟩
      clear HE hG hB3 hk3 hpb3 hG3 hloc
      obtain ⟨a3, c3, hv3⟩ := hsl
      rw [hv3] at HE' Hloc ⊢
      clear hv3
      go_wp2
      go_end0
      exact ⟨rfl, _, HE'.out.1, HE'.out.2.1, HE'.out.2.2.1, HE'.out.2.2.2, Hloc⟩

end Go.Proofs.YtjgjpepmfiklfaaGreatDoor.Bk
