import Derived.Test.YtfodkackfahldaaBqf
import Derived.Maps.AppendAt
import Derived.Laws.AppendOwnNone
namespace Go.Proofs.Ytfodkackfahldaa.Lo
open Go.RowKit
set_option linter.unusedVariables false
set_option linter.unusedSimpArgs false
section
variable {w w' W : World}
theorem app_g {ops : Array Oper} {rest : List Oper} {o : Oper} {a : Act} {Q : Exit → Act → World → Prop} (hgd : o.guard = none) (s x : Operand) (t : TypeId)
    (ho : o.op = .call { callee := .builtin .append, args := #[s, x], argTypes := #[t, t] })
    (base : Nat) (e : TypeId) (i : TypeInfo) (z : Value) (size bytes : Nat) (ht : Try.prog.underlying t = some (.slice e)) (hi : Try.prog.info? e = some i) (hz : i.zero = some z)
    (hsize : i.size = size) (hby : i.bytes = bytes) (hzs : z.cells.size = size) (hsz : 0 < size)
    (v : Value) (n : Nat) (xs : List Value) (hs : a.eval s = v) (hown : w.ownsRow base e size v n xs)
    (ao : Option Addr) (m c : Nat) (news : List Value) (hx : a.eval x = .slice ao m c) (hnone : ao = none → m = 0 ∧ c = 0) (hl : news.length = m * size) (hnews : ∀ ad, ao = some ad → ∀ j u, news[j]? = some u → w.cell? (ad.add j) = some u) (h1 : ∀ u ∈ news, u.oneCell' = true)
    (h63 : n + m ≤ maxLen) (hbytes : (n + m) * bytes ≤ 140737488355328) (hbase : base ≤ w.heap.size)
    (h : ∀ v' w', Hid (w'.ownsRow base e size v' (n + m) (xs ++ news)) → Hid (Mb.Kept w w' (fun k => v.ownBlock = some k)) → Hid (v'.ownBlock = v.ownBlock ∨ v'.ownBlock = some w.heap.size) → wpList Try.prog ops Q rest (a.put o.dst v') w') :
    wpList Try.prog ops Q (o :: rest) a w := by
  cases ao with
  | some ad =>
    refine wpList_append_own_at w hgd s x t ho base e i z size bytes ht hi hz hsize hby hzs hsz v n xs hs hown ad m c news hx hl (hnews ad rfl) h1 h63 hbytes hbase ?_
    intro v' w' h2 h3 _ h5
    exact h v' w' h2 ((Mb.Kept.ofGrown h3).mono fun k _ hk => hk.symm) h5
  | none =>
    obtain ⟨rfl, rfl⟩ := hnone rfl
    obtain rfl : news = [] := List.eq_nil_of_length_eq_zero (by rw [hl]; omega)
    exact wpList_append_own_none hgd s x t ho base e i size ht hi v n xs hs hown hx (h v w (by show World.ownsRow _ _ _ _ _ _ _; simpa using hown) (Mb.Kept.refl _ _) (.inl rfl))
theorem info_parts {t : TypeId} {z : Value} {s b : Nat} (h : (Try.prog.info? t).map (fun i => (i.zero, i.size, i.bytes)) = some (some z, s, b)) : ∃ i, Try.prog.info? t = some i ∧ i.zero = some z ∧ i.size = s ∧ i.bytes = b := by
  cases hq : Try.prog.info? t with
  | none => rw [hq] at h; cases h
  | some i => rw [hq] at h; simp at h; exact ⟨i, rfl, h.1, h.2.1, h.2.2⟩
def zEv : Array Value := #[.int .i64 0, .int .i64 0, .int .i64 0, .int .i64 0, .slice none 0 0, .int .i64 0, .int .i64 0, .int .i64 0, .int .i64 0, .string ⟨#[]⟩, .string ⟨#[]⟩, .string ⟨#[]⟩, .slice none 0 0]
theorem info_ev : (Try.prog.info? 36).map (fun i => (i.zero, i.size, i.bytes)) = some (some (.agg zEv), 13, 160) := by kernel_rfl
theorem info_u8 : (Try.prog.info? 5).map (fun i => (i.zero, i.size, i.bytes)) = some (some (.int .u8 0), 1, 1) := by kernel_rfl
def OwI (w : World) (B : Nat) (v : Value) (xs : List Int) : Prop := w.ownsRow B 3 1 v xs.length (Mb.ints xs)
def OwB (w : World) (B : Nat) (v : Value) (bs : List Int) : Prop := w.ownsRow B 5 1 v bs.length (Ln.byts bs)
theorem ow_nil (w : World) (B t s : Nat) : w.ownsRow B t s (.slice none 0 0) 0 [] := ⟨by simp, .inl ⟨rfl, rfl⟩⟩
theorem ri_news {ao : Option Addr} {n c : Nat} {xs : List Int} (h : Ri w ao n c xs) : ∀ ad, ao = some ad → ∀ j u, (Mb.ints xs)[j]? = some u → w.cell? (ad.add j) = some u := fun ad he j u hu => by
  have hj : j < xs.length := by have := (List.getElem?_eq_some_iff.1 hu).1; rwa [Mb.ints_len] at this
  rcases h.2.2 with h0 | ⟨b, off, e, hc⟩
  · have := h.1; omega
  · rw [e] at he
    cases he
    rw [Addr.add_mid, hc j (by have := h.1; omega), ← Mb.ints_at xs j hj, hu]
theorem app_I {ops : Array Oper} {rest : List Oper} {o : Oper} {a : Act} {Q : Exit → Act → World → Prop} (hgd : o.guard = none) (s x : Operand)
    (ho : o.op = .call { callee := .builtin .append, args := #[s, x], argTypes := #[22, 22] }) {B : Nat} {v : Value} {xs : List Int} (hs : a.eval s = v) (hown : OwI w B v xs)
    {ao : Option Addr} {m c : Nat} {ys : List Int} (hx : a.eval x = .slice ao m c) (hr : Ri w ao m c ys) (hn : (xs.length + m) * 8 ≤ 140737488355328) (hbase : B ≤ w.heap.size)
    (h : ∀ v' w', Hid (OwI w' B v' (xs ++ ys)) → Hid (Mb.Kept w w' (fun k => v.ownBlock = some k)) → Hid (v'.ownBlock = v.ownBlock ∨ v'.ownBlock = some w.heap.size) → wpList Try.prog ops Q rest (a.put o.dst v') w') : wpList Try.prog ops Q (o :: rest) a w := by
  obtain ⟨i0, hi, hz0, hz1, hz2⟩ := info_parts info_int
  refine app_g hgd s x 22 ho B 3 i0 (.int .i64 0) 1 8 Try.underlying22 hi hz0 hz1 hz2 rfl (by omega) v xs.length (Mb.ints xs) hs hown ao m c (Mb.ints ys) hx hr.2.1 (by rw [Mb.ints_len, hr.1]; omega) (ri_news hr) (Mb.ints_one ys) (by unfold maxLen; omega) hn hbase ?_
  intro v' w' h1 h2 h3
  refine h v' w' ?_ h2 h3
  show World.ownsRow _ _ _ _ _ _ _
  have := h1.out
  rw [List.length_append, hr.1]
  simpa [Mb.ints] using this
theorem app_B {ops : Array Oper} {rest : List Oper} {o : Oper} {a : Act} {Q : Exit → Act → World → Prop} (hgd : o.guard = none) (s x : Operand)
    (ho : o.op = .call { callee := .builtin .append, args := #[s, x], argTypes := #[32, 32] }) {B : Nat} {v : Value} {xs : List Int} (hs : a.eval s = v) (hown : OwB w B v xs)
    {ao : Option Addr} {m c : Nat} {ys : List Int} (hx : a.eval x = .slice ao m c) (hr : Ln.Rd w ao m c ys) (hnone : ao = none → m = 0 ∧ c = 0) (hn : xs.length + m ≤ 140737488355328) (hbase : B ≤ w.heap.size)
    (h : ∀ v' w', Hid (OwB w' B v' (xs ++ ys)) → Hid (Mb.Kept w w' (fun k => v.ownBlock = some k)) → Hid (v'.ownBlock = v.ownBlock ∨ v'.ownBlock = some w.heap.size) → wpList Try.prog ops Q rest (a.put o.dst v') w') : wpList Try.prog ops Q (o :: rest) a w := by
  obtain ⟨i0, hi, hz0, hz1, hz2⟩ := info_parts info_u8
  refine app_g hgd s x 32 ho B 5 i0 (.int .u8 0) 1 1 Try.underlying32 hi hz0 hz1 hz2 rfl (by omega) v xs.length (Ln.byts xs) hs hown ao m c (Ln.byts ys) hx hnone (by rw [Ln.byts_len, hr.len]; omega) hr.news (Ln.byts_one ys) (by unfold maxLen; omega) (by omega) hbase ?_
  intro v' w' h1 h2 h3
  refine h v' w' ?_ h2 h3
  show World.ownsRow _ _ _ _ _ _ _
  have := h1.out
  rw [List.length_append, hr.len]
  simpa [Ln.byts] using this
def fls (es : List Em) : List Value := es.flatMap Em.cs
theorem cs_one (e : Em) : ∀ u ∈ e.cs, u.oneCell' = true := by
  intro u hu
  simp only [Em.cs, List.mem_cons, List.not_mem_nil, or_false] at hu
  rcases hu with rfl | rfl | rfl | rfl | rfl | rfl | rfl | rfl | rfl | rfl | rfl | rfl | rfl <;> rfl
theorem cs_len (e : Em) : e.cs.length = 13 := rfl
theorem fls_len (es : List Em) : (fls es).length = es.length * 13 := by
  induction es with
  | nil => rfl
  | cons e es ih => simp [fls, List.flatMap_cons, cs_len] at *; omega
theorem fls_app (es : List Em) (e : Em) : fls (es ++ [e]) = fls es ++ e.cs := by simp [fls]
def OwE (w : World) (B : Nat) (v : Value) (es : List Em) : Prop := w.ownsRow B 36 13 v es.length (fls es)
theorem app_E {ops : Array Oper} {rest : List Oper} {o : Oper} {a : Act} {Q : Exit → Act → World → Prop} (hgd : o.guard = none) (s x : Operand)
    (ho : o.op = .call { callee := .builtin .append, args := #[s, x], argTypes := #[25, 25] }) {B : Nat} {v : Value} {es : List Em} (hs : a.eval s = v) {w0 : World} (hown : OwE w0 B v es) (e : Em) (hw : w = w0.alloc (.cells e.cs.toArray 36))
    (hx : a.eval x = .slice (some ⟨w0.heap.size, 0, none⟩) 1 1) (hn : (es.length + 1) * 160 ≤ 140737488355328) (hbase : B ≤ w0.heap.size)
    (h : ∀ v' w', Hid (OwE w' B v' (es ++ [e])) → Hid (Mb.Kept w0 w' (fun k => v.ownBlock = some k)) → Hid (v'.ownBlock = v.ownBlock ∨ ∃ k, v'.ownBlock = some k ∧ w0.heap.size ≤ k) → wpList Try.prog ops Q rest (a.put o.dst v') w') : wpList Try.prog ops Q (o :: rest) a w := by
  subst hw
  obtain ⟨i0, hi, hz0, hz1, hz2⟩ := info_parts info_ev
  have hb : Below w0.heap.size w0 (w0.alloc (.cells e.cs.toArray 36)) := bsp _ _ _
  refine app_g hgd s x 25 ho B 36 i0 (.agg zEv) 13 160 Try.underlying25 hi hz0 hz1 hz2 rfl (by omega) v es.length (fls es) hs (Mb.own_still hown hb) (some ⟨w0.heap.size, 0, none⟩) 1 1 e.cs hx (by simp) (by rw [cs_len]) ?_ (cs_one e) (by unfold maxLen; omega) hn (Nat.le_trans hbase hb.size) ?_
  · intro ad he j u hu
    cases he
    rw [Addr.add_mid, Nat.zero_add, blk_cell (heap_new w0 e.cs.toArray 36)]
    simpa using hu
  · intro v' w' h1 h2 h3
    refine h v' w' ?_ ((Mb.Kept.ofBelow hb (fun k => v.ownBlock = some k)).trans h2.out) ?_
    · show World.ownsRow _ _ _ _ _ _ _
      have := h1.out
      rw [List.length_append, fls_app]
      exact this
    · rcases h3.out with h4 | h4
      · exact .inl h4
      · exact .inr ⟨_, h4, hb.size⟩
end
end Go.Proofs.Ytfodkackfahldaa.Lo
