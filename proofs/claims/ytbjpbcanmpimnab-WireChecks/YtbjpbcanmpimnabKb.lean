import Derived.Test.YtbjpbcanmpimnabRows
import Derived.WalkKit
import Derived.WalkLawsBesides
import Derived.WalkSpells
import Derived.Outline
import Derived.Below
import Derived.BigQuiet
import Derived.Deep.QuietTactic
import Derived.Deep.RegionHeld3
import Derived.Deep.RegionLaw
import Derived.Deep.DrawnRows
import Derived.Laws.OwnMore
import Derived.Laws.AppendOwnNone
import Derived.WalkSmall

namespace Go.Proofs.Ytbjpbcanmpimnab.Lo
open Go.RowKit 
set_option linter.unusedVariables false
set_option linter.unusedSimpArgs false

def Rd (w : World) (ao : Option Addr) (len cap : Nat) (bs : List Int) : Prop :=
  bs.length = len ∧ (ao = none → len = 0 ∧ cap = 0) ∧ (len = 0 ∨ ∃ b off, ao = some ⟨b, off, none⟩ ∧ ∀ i, i < len → w.cell? ⟨b, off + i, none⟩ = some (.int .u8 (bs.getD i 0))) ∧ ∀ i, 0 ≤ bs.getD i 0 ∧ bs.getD i 0 ≤ 255

theorem info_u8 : (Try.prog.info? 5).map (fun i => (i.zero, i.size, i.bytes)) = some (some (.int .u8 0), 1, 1) := by kernel_rfl

def Own (w : World) (base : Nat) (v : Value) (bs : List Int) : Prop := w.ownsRow base 5 1 v bs.length (bs.map (Value.int .u8))

theorem Rd.cells {w w1 : World} {ao : Option Addr} {len cap : Nat} {bs : List Int} (h : Rd w ao len cap bs) (hbel : Below w.heap.size w w1) (a : Addr) (ha : ao = some a) : ∀ j v, (bs.map (Value.int .u8))[j]? = some v → w1.cell? (a.add j) = some v := by
  intro j v hv
  obtain ⟨hl, _, hc, _⟩ := h
  have hj : j < len := by have := (List.getElem?_eq_some_iff.1 hv).1; simpa [hl] using this
  rcases hc with h | ⟨b, off, hao, hc⟩
  · omega
  · rw [ha] at hao
    obtain rfl := Option.some.inj hao
    have hcj := hc j hj
    rw [Addr.add_lit, hbel.cell (World.block_lt_of_cell? w _ hcj), hcj]
    have e : (bs.map (Value.int .u8))[j]? = some (.int .u8 (bs.getD j 0)) := by simp [List.getD, show j < bs.length by omega]
    rw [e] at hv
    exact hv

theorem bytes_oneCell (bs : List Int) : ∀ u ∈ bs.map (Value.int .u8), u.oneCell' = true := by
  intro u hu
  obtain ⟨_, _, rfl⟩ := List.mem_map.1 hu
  rfl

theorem wpList_append_rd {P : Program} (w : World) {ops : Array Oper} {rest : List Oper} {o : Oper} {a : Act} {Q : Exit → Act → World → Prop} (hgd : o.guard = none) (s x : Operand) (t : TypeId)
    (ho : o.op = .call { callee := .builtin .append, args := #[s, x], argTypes := #[t, t] })
    (base : Nat) (e : TypeId) (i : TypeInfo) (z : Value) (bytes : Nat) (ht : P.underlying t = some (.slice e)) (hi : P.info? e = some i) (hz : i.zero = some z)
    (hsize : i.size = 1) (hby : i.bytes = bytes) (hzs : z.cells.size = 1)
    (v : Value) (n : Nat) (xs : List Value) (hs : a.eval s = v) (hown : w.ownsRow base e 1 v n xs)
    (ao : Option Addr) (m c : Nat) (news : List Value) (hx : a.eval x = .slice ao m c) (hnone : ao = none → m = 0 ∧ c = 0) (hl : news.length = m) (hnews : ∀ ad, ao = some ad → ∀ j u, news[j]? = some u → w.cell? (ad.add j) = some u) (h1 : ∀ u ∈ news, u.oneCell' = true)
    (h63 : n + m ≤ maxLen) (hbytes : (n + m) * bytes ≤ 140737488355328) (hbase : base ≤ w.heap.size)
    (h : ∀ v' w', w'.ownsRow base e 1 v' (n + m) (xs ++ news) → w.grownBy w' v.ownBlock → wpList P ops Q rest (a.put o.dst v') w') : wpList P ops Q (o :: rest) a w := by
  cases ao with
  | some ad => exact wpList_append_own w hgd s x t ho base e i z 1 bytes ht hi hz hsize hby hzs (by decide) v n xs hs hown ad m c news hx (by omega) (hnews ad rfl) h1 h63 hbytes hbase fun v' w' h2 h3 _ => h v' w' h2 h3
  | none =>
    obtain ⟨rfl, rfl⟩ := hnone rfl
    obtain rfl : news = [] := List.eq_nil_of_length_eq_zero hl
    exact wpList_append_own_none hgd s x t ho base e i 1 ht hi v n xs hs hown hx (h v w (by simpa using hown) (World.grownBy.refl _ _))

theorem own_empty (w : World) : Own (w.alloc (.cells #[] 5)) w.heap.size (.slice (some ⟨w.heap.size, 0, none⟩) 0 0) [] :=
  World.ownsRow_made w #[] 0 (Nat.le_refl _) (Nat.zero_le _) rfl

theorem own_copy {w1 : World} {base n : Nat} {v : Value} {bs : List Int} (hn : bs.length = n) (h : w1.ownsRow base 5 1 v n (bs.map (Value.int .u8))) : Own w1 base v bs := by
  subst hn; exact h

set_option maxRecDepth 100000 in
set_option maxHeartbeats 400000 in
theorem copied_any (ao : Option Addr) (len cap : Nat) (bs : List Int) (w : World) (hr : Rd w ao len cap bs) (hlen : len ≤ 140737488355328) :
    Calls Try.prog 12 #[.slice ao len cap] w fun e w' => ∃ v', e = .returned v' ∧ Own w' w.heap.size v' bs ∧ Below w.heap.size w w' := by
  obtain ⟨i0, hi, hz0, hz1, hz2⟩ := info_parts info_u8
  have hb1 : Hid (Below w.heap.size w (w.alloc (.cells #[] 5))) := (Below.refl _ _).alloc (Nat.le_refl _) _
  have hlb := hr.1
  have Hr : Hid (Rd w ao len cap bs) := hr
  clear hr
  go_enter Try.func12, Try.ntmps12
  go_wp2_with (first
    | (at_builtin; refine wpList_append_rd _ rfl _ _ 22 rfl w.heap.size 5 i0 (.int .u8 0) 1 Try.underlying22 hi hz0 hz1 hz2 rfl _ _ _ rfl (own_empty w) _ _ _ (bs.map (Value.int .u8)) rfl Hr.out.2.1 (by simpa using hlb) (Hr.out.cells hb1.out) (bytes_oneCell bs) ?c1 ?c2 ?c3 ?_)
    | fail)
  case c1 => simp; unfold maxLen; omega
  case c2 => simp; omega
  case c3 => simp
  intro v' w2 hown' hgrow
  have HO : Hid (Own w2 w.heap.size v' bs) := own_copy hlb (by simpa using hown')
  have HB : Hid (Below w.heap.size w w2) := hb1.out.grown hgrow (by simp) (fun k hk => by simp [Value.ownBlock] at hk; omega)
  clear hown' hgrow
  go_wp2
  go_ret
  exact ⟨_, rfl, HO, HB⟩

theorem Rd.below {w w1 : World} {ao : Option Addr} {len cap : Nat} {bs : List Int} (h : Rd w ao len cap bs) (hb : Below w.heap.size w w1) : Rd w1 ao len cap bs := by
  obtain ⟨h1, h2, h3, h4⟩ := h
  refine ⟨h1, h2, ?_, h4⟩
  rcases h3 with h | ⟨b, off, h, hc⟩
  · exact .inl h
  · exact .inr ⟨b, off, h, fun i hi => (hb.cell (World.block_lt_of_cell? w _ (hc i hi))).trans (hc i hi)⟩

set_option maxRecDepth 100000 in
set_option maxHeartbeats 1000000 in
theorem same_some (b off b' off' n c c' : Nat) (bs : List Int) (w : World) (hn : bs.length = n) (hlen : n ≤ 140737488355328)
    (h1 : ∀ i, i < n → w.cell? ⟨b, off + i, none⟩ = some (.int .u8 (bs.getD i 0))) (h2 : ∀ i, i < n → w.cell? ⟨b', off' + i, none⟩ = some (.int .u8 (bs.getD i 0))) :
    Calls Try.prog 13 #[.slice (some ⟨b, off, none⟩) n c, .slice (some ⟨b', off', none⟩) n c'] w fun e w' => e = .returned (.bool true) ∧ Below w.heap.size w w' := by
  go_enter Try.func13, Try.ntmps13
  go_wp2
  go_loopw [5] (fun i wr => ∃ k : Nat, k ≤ n ∧ i = .int .i64 k ∧ Below w.heap.size w wr) (fun i _ => n - (intOf i).toNat)
  case atStart => exact ⟨0, Nat.zero_le _, rfl, Below.refl _ _⟩
  case round =>
    obtain ⟨k, hk, rfl, hbel⟩ := hrel
    by_cases hlt : k < n
    · have g1 := h1 k hlt
      have g2 := h2 k hlt
      have g1' : wr.cell? ⟨b, off + k, none⟩ = some (.int .u8 (bs.getD k 0)) := by rw [hbel.cell (World.block_lt_of_cell? w _ g1), g1]
      have g2' : wr.cell? ⟨b', off' + k, none⟩ = some (.int .u8 (bs.getD k 0)) := by rw [hbel.cell (World.block_lt_of_cell? w _ g2), g2]
      clear g1 g2 h1 h2
      generalize bs.getD k 0 = x at *
      have HB : Hid (Below w.heap.size w wr) := hbel
      clear hbel
      go_wp2
      go_quiet (fail)
      go_wp2
      go_roundw
      case rel => exact ⟨k + 1, by omega, by go_num, below_drewN HB.out _⟩
      case measure => simp [intOf]; omega
    · have HB : Hid (Below w.heap.size w wr) := hbel
      clear hbel h1 h2
      go_wp2
      go_ret
      exact ⟨rfl, HB⟩

theorem same_none (ao ao' : Option Addr) (c c' : Nat) (w : World) :
    Calls Try.prog 13 #[.slice ao 0 c, .slice ao' 0 c'] w fun e w' => e = .returned (.bool true) ∧ Below w.heap.size w w' := by
  go_enter Try.func13, Try.ntmps13
  go_wp2
  refine wp_loop_rounds 1 ?_
  rw [rounds_succ]
  go_wp2
  go_ret
  exact ⟨rfl, Below.refl _ _⟩

theorem same_any (ao ao' : Option Addr) (n c c' : Nat) (bs : List Int) (w : World) (h1 : Rd w ao n c bs) (h2 : Rd w ao' n c' bs) (hlen : n ≤ 140737488355328) :
    Calls Try.prog 13 #[.slice ao n c, .slice ao' n c'] w fun e w' => e = .returned (.bool true) ∧ Below w.heap.size w w' := by
  obtain ⟨hn, _, hc, _⟩ := h1
  obtain ⟨_, _, hc', _⟩ := h2
  rcases hc with h0 | ⟨b, off, rfl, hc⟩
  · subst h0; exact same_none ao ao' c c' w
  · rcases hc' with h0 | ⟨b', off', rfl, hc'⟩
    · subst h0; exact same_none _ _ c c' w
    · exact same_some b off b' off' n c c' bs w hn hlen hc hc'

def inR (v lo hi : Int) : Bool := decide (lo ≤ v) && decide (v ≤ hi)

theorem within_any (v lo hi : Int) (w : World) : Calls Try.prog 64 #[.int .i64 v, .int .i64 lo, .int .i64 hi] w fun e w' => e = .returned (.bool (inR v lo hi)) ∧ w = w' := by
  go_enter Try.func64, Try.ntmps64
  go_wp2
  · go_ret
    exact ⟨by simp_all [inR], rfl⟩
  · go_ret
    exact ⟨by simp_all [inR]; omega, rfl⟩

theorem rwithin_any (v lo hi : Int) (w : World) : Calls Try.prog 72 #[.int .i64 v, .int .i64 lo, .int .i64 hi] w fun e w' => e = .returned (.bool (inR v lo hi)) ∧ w = w' := by
  go_enter Try.func72, Try.ntmps72
  go_wp2
  · go_ret
    exact ⟨by simp_all [inR], rfl⟩
  · go_ret
    exact ⟨by simp_all [inR]; omega, rfl⟩

theorem nodeFits_any (v : Int) (w : World) : Calls Try.prog 76 #[.int .i64 v] w fun e w' => e = .returned (.bool (inR v 0 15)) ∧ w = w' := by
  go_enter Try.func76, Try.ntmps76
  go_wp2_with (first | (go_at_call 64; refine (within_any _ _ _ _).mono ?_; rintro e w' ⟨rfl, rfl⟩) | fail)
  go_ret
  exact ⟨rfl, rfl⟩

theorem countFits_any (v : Int) (w : World) : Calls Try.prog 101 #[.int .i64 v] w fun e w' => e = .returned (.bool (inR v 0 4611686018427387904)) ∧ w = w' := by
  go_enter Try.func101, Try.ntmps101
  go_wp2_with (first | (go_at_call 64; refine (within_any _ _ _ _).mono ?_; rintro e w' ⟨rfl, rfl⟩) | fail)
  go_ret
  exact ⟨rfl, rfl⟩

def dataOK (s q st : Int) (n : Nat) : Bool := inR s 0 15 && inR q 1 4611686018427387904 && inR st 0 4611686018427387904 && decide (n ≤ 256)

def slotOK (s q : Int) : Bool := inR s 0 15 && inR q 1 4611686018427387904

theorem dataFits_any (s q st : Int) (ao : Option Addr) (n c : Nat) (w : World) : Calls Try.prog 63 #[.agg #[.int .i64 s, .int .i64 q, .int .i64 st, .slice ao n c]] w fun e w' => e = .returned (.bool (dataOK s q st n)) ∧ Below w.heap.size w w' := by
  go_enter Try.func63, Try.ntmps63
  go_wp2_with (first
    | (go_at_call 64; refine (within_any _ _ _ _).mono ?_; rintro e w' ⟨rfl, rfl⟩)
    | (go_at_call 76; refine (nodeFits_any _ _).mono ?_; rintro e w' ⟨rfl, rfl⟩)
    | (go_at_call 101; refine (countFits_any _ _).mono ?_; rintro e w' ⟨rfl, rfl⟩)
    | fail)
  all_goals go_ret
  all_goals refine ⟨?_, (Below.refl _ _).alloc (Nat.le_refl _) _⟩
  all_goals simp_all [dataOK]
  all_goals omega

theorem goodData_any (s q st : Int) (ao : Option Addr) (n c : Nat) (w : World) : Calls Try.prog 71 #[.agg #[.int .i64 s, .int .i64 q, .int .i64 st, .slice ao n c]] w fun e w' => e = .returned (.bool (dataOK s q st n)) ∧ Below w.heap.size w w' := by
  go_enter Try.func71, Try.ntmps71
  go_wp2_with (first
    | (go_at_call 72; refine (rwithin_any _ _ _ _).mono ?_; rintro e w' ⟨rfl, rfl⟩)
    | fail)
  all_goals go_ret
  all_goals refine ⟨?_, (Below.refl _ _).alloc (Nat.le_refl _) _⟩
  all_goals simp_all [dataOK]
  all_goals omega

theorem slotFits_any (s q : Int) (w : World) : Calls Try.prog 65 #[.agg #[.int .i64 s, .int .i64 q]] w fun e w' => e = .returned (.bool (slotOK s q)) ∧ Below w.heap.size w w' := by
  go_enter Try.func65, Try.ntmps65
  go_wp2_with (first
    | (go_at_call 64; refine (within_any _ _ _ _).mono ?_; rintro e w' ⟨rfl, rfl⟩)
    | (go_at_call 76; refine (nodeFits_any _ _).mono ?_; rintro e w' ⟨rfl, rfl⟩)
    | fail)
  all_goals go_ret
  all_goals refine ⟨?_, (Below.refl _ _).alloc (Nat.le_refl _) _⟩
  all_goals simp_all [slotOK]

theorem goodSlot_any (s q : Int) (w : World) : Calls Try.prog 73 #[.agg #[.int .i64 s, .int .i64 q]] w fun e w' => e = .returned (.bool (slotOK s q)) ∧ Below w.heap.size w w' := by
  go_enter Try.func73, Try.ntmps73
  go_wp2_with (first
    | (go_at_call 72; refine (rwithin_any _ _ _ _).mono ?_; rintro e w' ⟨rfl, rfl⟩)
    | fail)
  all_goals go_ret
  all_goals refine ⟨?_, (Below.refl _ _).alloc (Nat.le_refl _) _⟩
  all_goals simp_all [slotOK]

theorem bstep {w0 w w' : World} (h : Below w0.heap.size w0 w) (hb : Below w.heap.size w w') : Below w0.heap.size w0 w' := h.trans (hb.mono h.size)

theorem balloc {w0 w : World} {o : Obj} (h : Below w0.heap.size w0 w) : Below w0.heap.size w0 (w.alloc o) := h.alloc h.size o

theorem bstepA {w0 w w' : World} {o : Obj} (h : Below w0.heap.size w0 w) (hb : Below (w.alloc o).heap.size (w.alloc o) w') : Below w0.heap.size w0 w' := bstep (balloc h) hb

theorem spill {w w' : World} {cs : Array Value} {t : TypeId} (hb : Below (w.alloc (.cells cs t)).heap.size (w.alloc (.cells cs t)) w') (i : Nat) : w'.cell? ⟨w.heap.size, i, none⟩ = cs[i]? := by
  exact cell_of_row w' w.heap.size i cs t (0, 0) ((hb.block w.heap.size (by simp)).trans (heap_alloc_new w _))

end Go.Proofs.Ytbjpbcanmpimnab.Lo

namespace Go.Proofs.Ytbjpbcanmpimnab.Bk
open Go.RowKit Lo
set_option linter.unusedVariables false
set_option linter.unusedSimpArgs false

structure Kept (w w' : World) (P : Nat → Prop) : Prop where
  os : w'.os = w.os
  tape : w'.tape = w.tape
  output : w'.output = w.output
  size : w.heap.size ≤ w'.heap.size
  block : ∀ k, k < w.heap.size → ¬ P k → w'.heap[k]? = w.heap[k]?

theorem Kept.trans {a b c : World} {P : Nat → Prop} (h : Kept a b P) (k : Kept b c P) : Kept a c P :=
  ⟨k.os.trans h.os, k.tape.trans h.tape, k.output.trans h.output, Nat.le_trans h.size k.size, fun i hi hp => (k.block i (Nat.lt_of_lt_of_le hi h.size) hp).trans (h.block i hi hp)⟩

theorem Kept.ofGrown {a b : World} {r : Option Nat} (h : a.grownBy b r) : Kept a b (fun k => some k = r) := ⟨h.os, h.tape, h.output, h.size, fun i hi hp => h.block i hi hp⟩

theorem Kept.ofBelow {a b : World} (h : Below a.heap.size a b) (P : Nat → Prop) : Kept a b P := ⟨h.os, h.tape, h.output, h.size, fun i hi _ => h.block i hi⟩

theorem Kept.below {a b : World} {P : Nat → Prop} {B : Nat} (h : Kept a b P) (hB : B ≤ a.heap.size) (hp : ∀ k, k < B → ¬ P k) : Below B a b := ⟨h.os, h.tape, h.output, h.size, fun i hi => h.block i (by omega) (hp i hi)⟩

theorem Kept.owns {a b : World} {P : Nat → Prop} {base e size n : Nat} {v : Value} {xs : List Value} (h : Kept a b P) (ho : a.ownsRow base e size v n xs) (hp : ∀ k, v.ownBlock = some k → ¬ P k) : b.ownsRow base e size v n xs := by
  refine ⟨ho.1, ?_⟩
  have hlt := ho.lt
  rcases ho.2 with h1 | ⟨g, cap, cur, hv, hg, hh, hr⟩
  · exact .inl h1
  · subst hv
    exact .inr ⟨g, cap, cur, rfl, hg, (h.block g (hlt g rfl).2 (hp g rfl)).trans hh, hr⟩

theorem lt_heap {w : World} {k : Nat} {o : Obj} (h : w.heap[k]? = some o) : k < w.heap.size := by
  rcases Array.getElem?_eq_some_iff.1 h with ⟨h, _⟩; exact h

end Go.Proofs.Ytbjpbcanmpimnab.Bk

namespace Go.Proofs.Ytbjpbcanmpimnab.Lo
open Go.RowKit Bk
set_option linter.unusedVariables false
set_option linter.unusedSimpArgs false

theorem blk_spill {w w' : World} {cs : Array Value} {t : TypeId} (hb : Below (w.alloc (.cells cs t)).heap.size (w.alloc (.cells cs t)) w') : w'.heap[w.heap.size]? = some (.cells cs t (0, 0)) :=
  (hb.block w.heap.size (by simp)).trans (heap_alloc_new w _)

theorem blk_alloc {W : World} {cs : Array Value} {t : TypeId} {kb : Nat} {o : Obj} (h : W.heap[kb]? = some (.cells cs t (0, 0))) : (W.alloc o).heap[kb]? = some (.cells cs t (0, 0)) :=
  (Below.heap_alloc W o kb (by rcases Array.getElem?_eq_some_iff.1 h with ⟨h, _⟩; exact h)).trans h

theorem blk_cell {W : World} {cs : Array Value} {t : TypeId} {kb : Nat} (h : W.heap[kb]? = some (.cells cs t (0, 0))) (i : Nat) : W.cell? ⟨kb, i, none⟩ = cs[i]? := cell_of_row W kb i cs t (0, 0) h

theorem sameD_any (s q st : Int) (a1 a2 : Option Addr) (n c1 c2 : Nat) (body : List Int) (w : World) (h1 : Rd w a1 n c1 body) (h2 : Rd w a2 n c2 body) (hlen : n ≤ 140737488355328) :
    Calls Try.prog 38 #[.agg #[.int .i64 s, .int .i64 q, .int .i64 st, .slice a1 n c1], .agg #[.int .i64 s, .int .i64 q, .int .i64 st, .slice a2 n c2]] w fun e w' => e = .returned (.bool true) ∧ Below w.heap.size w w' := by
  have H1 : Hid (Rd w a1 n c1 body) := h1
  have H2 : Hid (Rd w a2 n c2 body) := h2
  clear h1 h2
  go_enter Try.func38, Try.ntmps38
  go_wp2_with fail
  refine (same_any a1 a2 n c1 c2 body _ (H1.out.below (balloc (balloc (Below.refl _ _)))) (H2.out.below (balloc (balloc (Below.refl _ _)))) hlen).mono ?_
  rintro e w1 ⟨rfl, hb1⟩
  have HB1 : Hid (Below w.heap.size w w1) := bstep (balloc (balloc (Below.refl _ _))) hb1
  clear hb1
  go_wp2_with fail
  go_ret
  exact ⟨rfl, HB1⟩

theorem kset {P : Nat → Prop} (w : World) (k i : Nat) (v : Value) (hp : P k) : Kept w (w.setCell ⟨k, i, none⟩ v) P :=
  ⟨rfl, rfl, rfl, by simp, fun j hj hq => Below.heap_setCell w ⟨k, i, none⟩ v j (fun e => hq (by have e' : j = k := e; rw [e']; exact hp))⟩

theorem inR_ge {v lo hi : Int} (h : inR v lo hi = true) : ¬ v < lo ∧ ¬ hi < v := by
  unfold inR at h
  simp at h
  omega

theorem bset {w w1 : World} {k : Nat} (h : Below w.heap.size w w1) (hk : w.heap.size ≤ k) (i : Nat) (v : Value) : Below w.heap.size w (w1.setCell ⟨k, i, none⟩ v) :=
  h.trans ((kset (P := fun j => j = k) w1 k i v rfl).below h.size (fun j hj e => by omega))

structure Two (w w' : World) (db : Nat) (ds : Array Value) (ob : Nat) (os : Array Value) (t : TypeId) : Prop where
  d : w'.heap[db]? = some (.cells ds t (0, 0))
  o : w'.heap[ob]? = some (.cells os t (0, 0))
  b : Below w.heap.size w w'
  n : db ≠ ob ∧ w.heap.size ≤ ob

theorem Two.still {w w1 w2 : World} {db ob : Nat} {ds os : Array Value} {t : TypeId} (h : Two w w1 db ds ob os t) (hb : Below w1.heap.size w1 w2) : Two w w2 db ds ob os t :=
  ⟨(hb.block db (lt_heap h.d)).trans h.d, (hb.block ob (lt_heap h.o)).trans h.o, bstep h.b hb, h.n⟩

theorem Two.set {w w1 : World} {db ob : Nat} {ds os : Array Value} {t : TypeId} (h : Two w w1 db ds ob os t) (i : Nat) (v : Value) : Two w (w1.setCell ⟨ob, i, none⟩ v) db ds ob (os.setIfInBounds i v) t :=
  ⟨(Below.heap_setCell w1 ⟨ob, i, none⟩ v db (by have := h.n; show ¬ db = ob; omega)).trans h.d, heap_setCell_same w1 ob i os t v h.o, bset h.b h.n.2 i v, h.n⟩

theorem Two.cd {w w1 : World} {db ob : Nat} {ds os : Array Value} {t : TypeId} (h : Two w w1 db ds ob os t) (i : Nat) : w1.cell? ⟨db, i, none⟩ = ds[i]? := blk_cell h.d i

theorem Two.co {w w1 : World} {db ob : Nat} {ds os : Array Value} {t : TypeId} (h : Two w w1 db ds ob os t) (i : Nat) : w1.cell? ⟨ob, i, none⟩ = os[i]? := blk_cell h.o i

theorem Two.fz {w w1 : World} {db ob : Nat} {ds os : Array Value} {t : TypeId} (h : Two w w1 db ds ob os t) (i : Nat) : w1.frozen? ⟨ob, i, none⟩ = false := frozen_of_row w1 ob i os t h.o

end Go.Proofs.Ytbjpbcanmpimnab.Lo
