import Derived.Test.YtihcaopcfhbofaaX16
namespace Go.Proofs.Ytihcaopcfhbofaa.Fm
open Go.RowKit Go.Maps Mb
set_option linter.unusedVariables false
set_option maxRecDepth 100000
set_option linter.unusedSimpArgs false
section
variable {w w' W : World} {B : Nat}
theorem copy_app {ops : Array Oper} {rest : List Oper} {o : Oper} {a : Act} {Qp : Exit → Act → World → Prop} (hgd : o.guard = none) (s x : Operand) (t e : TypeId)
    (ho : o.op = .call { callee := .builtin .append, args := #[s, x], argTypes := #[t, t] })
    (i : TypeInfo) (z : Value) (size bytes : Nat) (ht : Try.prog.underlying t = some (.slice e)) (hi : Try.prog.info? e = some i) (hz : i.zero = some z)
    (hsize : i.size = size) (hby : i.bytes = bytes) (hzs : z.cells.size = size) (hsz : 0 < size)
    (hs : a.eval s = .slice (some ⟨W.heap.size, 0, none⟩) 0 0)
    (ao : Option Addr) (m c : Nat) (news : List Value) (hx : a.eval x = .slice ao m c) (hnone : ao = none → m = 0 ∧ c = 0) (hl : news.length = m * size) (hnews : ∀ ad, ao = some ad → ∀ j u, news[j]? = some u → W.cell? (ad.add j) = some u) (h1 : ∀ u ∈ news, u.oneCell' = true)
    (h63 : m ≤ maxLen) (hbytes : m * bytes ≤ 140737488355328)
    (h : ∀ (a1 : Option Addr) (c1 : Nat) (w2 : World), Below W.heap.size W w2 → w2.ownsRow W.heap.size e size (.slice a1 m c1) m news → wpList Try.prog ops Qp rest (a.put o.dst (.slice a1 m c1)) w2) :
    wpList Try.prog ops Qp (o :: rest) a (W.alloc (.cells #[] e)) := by
  have hown : (W.alloc (.cells #[] e)).ownsRow W.heap.size e size (.slice (some ⟨W.heap.size, 0, none⟩) 0 0) 0 [] := World.ownsRow_made W #[] 0 (by omega) (Nat.zero_le _) (by simp)
  have hbW : Below W.heap.size W (W.alloc (.cells #[] e)) := (Below.refl _ _).alloc (Nat.le_refl _) _
  cases ao with
  | some ad =>
    refine wpList_append_own _ hgd s x t ho W.heap.size e i z size bytes ht hi hz hsize hby hzs hsz _ 0 [] hs hown ad m c news hx hl (fun j u hu => ?_) h1 (by omega) (by simpa using hbytes) (by simp) fun v' w' h2 h3 _ => ?_
    · have hc := hnews ad rfl j u hu
      exact (hbW.cell (World.block_lt_of_cell? W _ hc)).trans hc
    · simp only [Nat.zero_add, List.nil_append] at h2
      have hb2 : Below W.heap.size W w' := hbW.grown h3 (by simp) (fun k hk => by simp [Value.ownBlock] at hk; omega)
      obtain ⟨a1, c1, rfl⟩ : ∃ a1 c1, v' = Value.slice a1 m c1 := by
        rcases h2.2 with ⟨h3, h4⟩ | ⟨g, cap, cur, hv, _⟩
        · exact ⟨none, 0, by rw [h4]; exact h3⟩
        · exact ⟨_, _, hv⟩
      exact h a1 c1 w' hb2 h2
  | none =>
    obtain ⟨rfl, rfl⟩ := hnone rfl
    obtain rfl : news = [] := List.eq_nil_of_length_eq_zero (by omega)
    exact wpList_append_own_none hgd s x t ho _ e i size ht hi _ 0 [] hs hown hx (h _ _ _ hbW hown)
theorem own_rdI {B : Nat} {a : Option Addr} {n c : Nat} {xs : List Int} (h : w.ownsRow B 3 1 (.slice a n c) n (ints xs)) (hn : xs.length = n) : RdI w a xs := by
  unfold RdI Row
  by_cases h0 : n = 0
  · exact .inl (by omega)
  · rcases h.2 with ⟨h1, h2⟩ | ⟨g, cap, cur, hv, hB, hg, hnc, hcm, hcs, htk⟩
    · omega
    · simp at hv
      refine .inr ⟨g, 0, hv.1, fun i hi => ?_⟩
      rw [Nat.zero_add, blk_cell hg i]
      have e1 : (cur.toList.take (n * 1))[i]? = (ints xs)[i]? := by rw [htk]
      rw [List.getElem?_take_of_lt (by omega)] at e1
      rw [← Array.getElem?_toList, e1]
      exact ints_at xs i (by omega)
theorem slCells_one (ss : List (Int × Int)) : ∀ u ∈ slCells ss, u.oneCell' = true := by
  intro u hu
  simp only [slCells, List.mem_flatMap] at hu
  obtain ⟨s, _, hs⟩ := hu
  exact slotV_one s u hs
theorem rdS_news {ao : Option Addr} {ss : List (Int × Int)} (h : RdS w ao ss) : ∀ ad, ao = some ad → ∀ j u, (slCells ss)[j]? = some u → w.cell? (ad.add j) = some u := fun ad he j u hu => by
  have hj : j < ss.length * 2 := by have := (List.getElem?_eq_some_iff.1 hu).1; rwa [slCells_len] at this
  rcases h with h | ⟨b, off, h1, h2⟩
  · omega
  · rw [h1] at he
    cases he
    rw [Addr.add_mid, h2 j hj]
    rw [slCells_at ss j hj] at hu
    exact hu
theorem rdI_news {ao : Option Addr} {xs : List Int} (h : RdI w ao xs) : ∀ ad, ao = some ad → ∀ j u, (ints xs)[j]? = some u → w.cell? (ad.add j) = some u := fun ad he j u hu => by
  have hj : j < xs.length := by have := (List.getElem?_eq_some_iff.1 hu).1; rwa [ints_len] at this
  rcases h with h | ⟨b, off, h1, h2⟩
  · omega
  · rw [h1] at he
    cases he
    rw [Addr.add_mid, h2 j (by omega)]
    rw [ints_at xs j hj] at hu
    exact hu
structure Fl.In (f : Fl) (w : World) : Prop where
  rd : f.Rd w
  sz : f.sa = none → f.c.sl.length = 0 ∧ f.sc = 0
  hz : f.ha = none → f.c.hv.length = 0 ∧ f.hc = 0
  sn : f.c.sl.length ≤ 1048576
  hn : f.c.hv.length ≤ 1048576
theorem Fl.In.still {f : Fl} (h : f.In w) (hb : Below w.heap.size w w') : f.In w' := ⟨h.rd.still hb, h.sz, h.hz, h.sn, h.hn⟩
theorem int_info : ∃ i : TypeInfo, Try.prog.info? 3 = some i ∧ i.zero = some (.int .i64 0) ∧ i.size = 1 ∧ i.bytes = 8 := by
  have h : (Try.prog.info? 3).map (fun i => (i.zero, i.size, i.bytes)) = some (some (.int .i64 0), 1, 8) := by kernel_rfl
  cases hq : Try.prog.info? 3 with
  | none => rw [hq] at h; cases h
  | some i => rw [hq] at h; simp at h; exact ⟨i, rfl, h.1, h.2.1, h.2.2⟩
end
end Go.Proofs.Ytihcaopcfhbofaa.Fm
