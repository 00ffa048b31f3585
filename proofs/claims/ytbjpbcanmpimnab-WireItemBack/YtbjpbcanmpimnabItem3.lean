import Derived.Test.YtbjpbcanmpimnabItem2
import Derived.Deep.RegionHeld3
namespace Go.Proofs.Ytbjpbcanmpimnab.Lo
open Go.RowKit
set_option linter.unusedVariables false

theorem put_len1 (ns : List Int) (x : Int) : puts (ns ++ [x]) = puts ns ++ Wm.put 8 x := by simp [puts]

theorem spillT {w w' : World} {cs : Array Value} {t : TypeId} (hb : KeptT (w.alloc (.cells cs t)) w') (ht : t ≠ 5) (i : Nat) : w'.cell? ⟨w.heap.size, i, none⟩ = cs[i]? :=
  cell_of_row w' w.heap.size i cs t (0, 0) ((hb.2 w.heap.size (by simp) (fun cur e => by rw [heap_alloc_new] at e; simp at e; exact ht e.2)).trans (heap_alloc_new w _))

theorem counts_fresh (w0 Wsp X W : World) (v : Value) (bs ns : List Int) (n cb : Nat) (hcb : X.heap.size = cb) (ho : Own Wsp w0.heap.size v bs) (hb : Below w0.heap.size w0 Wsp) (hX : Below Wsp.heap.size Wsp X) (hW : Below X.heap.size X W) (hn : ns.length = n) (hc : W.heap[X.heap.size]? = some (.cells (ns.map (Value.int .i64)).toArray 3 (0, 0)))
    (hr : ∀ x ∈ ns, 0 ≤ x ∧ x ≤ 4611686018427387904) (hroom : bs.length + 9 * n ≤ 140737488355328) :
    Calls Try.prog 32 #[v, .slice (some ⟨cb, 0, none⟩) n n] W fun e w' => ∃ v', e = .returned v' ∧ Own w' w0.heap.size v' (bs ++ puts ns) ∧ Below w0.heap.size w0 w' ∧ KeptT Wsp w' := by
  subst hcb
  have hbw : Below w0.heap.size w0 W := bstep (bstep hb hX) hW
  refine (counts_any w0.heap.size v bs X.heap.size 0 n n ns W (owns_below (owns_below ho hX) hW) hbw.size hn ?_ (.inr ⟨_, hc⟩) (by rcases Array.getElem?_eq_some_iff.1 hc with ⟨h, _⟩; exact h) hr hroom).mono ?_
  · intro i hi
    have := cell_of_row W X.heap.size (0 + i) _ _ _ hc
    rw [this]
    simp [List.getD, List.getElem?_eq_getElem (show i < ns.length by omega)]
  · rintro e w' ⟨v', rfl, h1, h2, h3⟩
    exact ⟨v', rfl, h1, hbw.trans h2, ((KeptT.ofBelow hX).trans (KeptT.ofBelow hW)).trans h3⟩

set_option maxRecDepth 100000 in
set_option maxHeartbeats 2000000 in
theorem putData_any (w0 : World) (v : Value) (bs : List Int) (s q st : Int) (ao : Option Addr) (n c : Nat) (body : List Int) (w : World) (hr : Rd w0 ao n c body) (hbel : Below w0.heap.size w0 w) (ho : Own w w0.heap.size v bs) (hroom : bs.length + n + 36 ≤ 140737488355328)
    (h1 : 0 ≤ s ∧ s ≤ 4611686018427387904) (h2 : 0 ≤ q ∧ q ≤ 4611686018427387904) (h3 : 0 ≤ st ∧ st ≤ 4611686018427387904) :
    Calls Try.prog 31 #[v, .agg #[.int .i64 s, .int .i64 q, .int .i64 st, .slice ao n c]] w fun e w' => ∃ v', e = .returned v' ∧ Own w' w0.heap.size v' (bs ++ (puts [s, q, st] ++ (Wm.put 8 n ++ body))) ∧ Below w0.heap.size w0 w' ∧ KeptT w w' := by
  have hsz := hbel.size
  have HR : Hid (Rd w0 ao n c body) := hr
  have HB : Hid (Below w0.heap.size w0 w) := hbel
  have HO : Hid (Own w w0.heap.size v bs) := ho
  have HN : Hid (∀ x ∈ [s, q, st], 0 ≤ x ∧ x ≤ 4611686018427387904) := by simp only [List.mem_cons, List.not_mem_nil, or_false]; rintro x (rfl | rfl | rfl) <;> assumption
  have hpl := puts_len_le [s, q, st]
  simp only [List.length_cons, List.length_nil] at hpl
  clear hr hbel ho h1 h2 h3
  go_enter Try.func31, Try.ntmps31
  go_wp2_with fail
  have hS0 := spillT (w := w) (cs := #[.int .i64 s, .int .i64 q, .int .i64 st, .slice ao n c]) (t := 24) (KeptT.refl _) (by decide)
  have HOs : Hid (Own (w.alloc (.cells #[.int .i64 s, .int .i64 q, .int .i64 st, .slice ao n c] 24)) w0.heap.size v bs) := HO.out.alloc _
  have HBs : Hid (Below w0.heap.size w0 (w.alloc (.cells #[.int .i64 s, .int .i64 q, .int .i64 st, .slice ao n c] 24))) := balloc HB.out
  have HTs : Hid (KeptT w (w.alloc (.cells #[.int .i64 s, .int .i64 q, .int .i64 st, .slice ao n c] 24))) := KeptT.ofAlloc _ _
  have HSp : Hid (∀ w', KeptT (w.alloc (.cells #[.int .i64 s, .int .i64 q, .int .i64 st, .slice ao n c] 24)) w' → (w'.cell? ⟨w.heap.size, 0, none⟩ = some (.int .i64 s) ∧ w'.cell? ⟨w.heap.size, 1, none⟩ = some (.int .i64 q) ∧ w'.cell? ⟨w.heap.size, 2, none⟩ = some (.int .i64 st) ∧ w'.cell? ⟨w.heap.size, 3, none⟩ = some (.slice ao n c))) :=
    fun w' h => ⟨(spillT h (by decide) 0).trans rfl, (spillT h (by decide) 1).trans rfl, (spillT h (by decide) 2).trans rfl, (spillT h (by decide) 3).trans rfl⟩
  generalize hWsp : w.alloc (.cells #[.int .i64 s, .int .i64 q, .int .i64 st, .slice ao n c] 24) = Wsp at *
  generalize hkb : w.heap.size = kb at *
  clear hWsp hS0 hkb
  obtain ⟨d0, d1, d2, d3⟩ := HSp.out Wsp (KeptT.refl _)
  go_region_held3 (fun w' => w'.cell? ⟨kb, 0, none⟩ = some (.int .i64 s) ∧ w'.cell? ⟨kb, 1, none⟩ = some (.int .i64 q) ∧ w'.cell? ⟨kb, 2, none⟩ = some (.int .i64 st) ∧ w'.cell? ⟨kb, 3, none⟩ = some (.slice ao n c)) (go_keep)
    ((first
      | (go_at_call 32; go_loud (refine (counts_fresh w0 Wsp Wsp _ v bs [s, q, st] 3 _ rfl HOs.out HBs.out (Below.refl _ _) (by repeat (first | exact Below.refl _ _ | apply Below.drew | apply balloc)) rfl (by exact heap_alloc_new Wsp.drew _) HN.out (by omega)).mono ?_); rintro e w1 ⟨v1, rfl, ho1, hb1, ht1⟩; obtain ⟨e0, e1, e2, e3⟩ := HSp.out w1 ht1)
      | (go_at_call 67; go_loud (refine (putBytes_any w0 v1 _ ao n c body _ HR.out (by repeat (first | exact hb1 | apply Below.drew)) (by exact ho1) (by simp; omega)).mono ?_); rintro e w2 ⟨v2, rfl, ho2, hb2, ht2⟩; obtain ⟨e0, e1, e2, e3⟩ := HSp.out w2 (ht1.trans ht2))))
  have HO2 : Hid (Own w2 w0.heap.size v2 (bs ++ (puts [s, q, st] ++ (Wm.put 8 n ++ body)))) := by rw [← List.append_assoc]; exact ho2
  have HB2 : Hid (Below w0.heap.size w0 w2) := hb2
  have HT2 : Hid (KeptT w w2) := HTs.out.trans (ht1.trans ht2)
  clear ho2 hb2 ht2 ho1 hb1 ht1 d0 d1 d2 d3 e0 e1 e2 e3
  go_wp2
  go_ret
  exact ⟨_, rfl, HO2, HB2, HT2⟩

set_option maxRecDepth 100000 in
set_option maxHeartbeats 2000000 in
theorem rputData_any (w0 : World) (v : Value) (bs : List Int) (s q st : Int) (ao : Option Addr) (n c : Nat) (body : List Int) (w : World) (hr : Rd w0 ao n c body) (hbel : Below w0.heap.size w0 w) (ho : Own w w0.heap.size v bs) (hroom : bs.length + n + 36 ≤ 140737488355328)
    (h1 : 0 ≤ s ∧ s ≤ 4611686018427387904) (h2 : 0 ≤ q ∧ q ≤ 4611686018427387904) (h3 : 0 ≤ st ∧ st ≤ 4611686018427387904) :
    Calls Try.prog 40 #[v, .agg #[.int .i64 s, .int .i64 q, .int .i64 st, .slice ao n c]] w fun e w' => ∃ v', e = .returned v' ∧ Own w' w0.heap.size v' (bs ++ (puts [s, q, st] ++ (Wm.put 8 n ++ body))) ∧ Below w0.heap.size w0 w' ∧ KeptT w w' := by
  have hsz := hbel.size
  have HR : Hid (Rd w0 ao n c body) := hr
  have HB : Hid (Below w0.heap.size w0 w) := hbel
  have HO : Hid (Own w w0.heap.size v bs) := ho
  have p1 := put_len 8 s
  have p2 := put_len 8 q
  have p3 := put_len 8 st
  clear hr hbel ho
  have HOs : Hid (Own (w.alloc (.cells #[.int .i64 s, .int .i64 q, .int .i64 st, .slice ao n c] 24)) w0.heap.size v bs) := HO.out.alloc _
  have HBs : Hid (Below w0.heap.size w0 (w.alloc (.cells #[.int .i64 s, .int .i64 q, .int .i64 st, .slice ao n c] 24))) := balloc HB.out
  have HTs : Hid (KeptT w (w.alloc (.cells #[.int .i64 s, .int .i64 q, .int .i64 st, .slice ao n c] 24))) := KeptT.ofAlloc _ _
  have HSp : Hid (∀ w', KeptT (w.alloc (.cells #[.int .i64 s, .int .i64 q, .int .i64 st, .slice ao n c] 24)) w' → (w'.cell? ⟨w.heap.size, 0, none⟩ = some (.int .i64 s) ∧ w'.cell? ⟨w.heap.size, 1, none⟩ = some (.int .i64 q) ∧ w'.cell? ⟨w.heap.size, 2, none⟩ = some (.int .i64 st) ∧ w'.cell? ⟨w.heap.size, 3, none⟩ = some (.slice ao n c))) :=
    fun w' h => ⟨(spillT h (by decide) 0).trans rfl, (spillT h (by decide) 1).trans rfl, (spillT h (by decide) 2).trans rfl, (spillT h (by decide) 3).trans rfl⟩
  go_enter Try.func40, Try.ntmps40
  go_wp2_with fail
  generalize hWsp : w.alloc (.cells #[.int .i64 s, .int .i64 q, .int .i64 st, .slice ao n c] 24) = Wsp at *
  generalize hkb : w.heap.size = kb at *
  clear hWsp hkb
  refine (rput_any w0.heap.size v bs s _ HOs.out HBs.out.size h1.1 h1.2 (by omega)).mono ?_
  rintro e w1 ⟨v1, rfl, ho1, hb1, ht1⟩
  have HO1 : Hid (Own w1 w0.heap.size v1 (bs ++ Wm.put 8 s)) := ho1
  have HB1 : Hid (Below w0.heap.size w0 w1) := HBs.out.trans hb1
  have HT1 : Hid (KeptT Wsp w1) := ht1
  obtain ⟨d0, d1, d2, d3⟩ := HSp.out w1 ht1
  clear ho1 hb1 ht1
  go_wp2_with fail
  refine (rput_any w0.heap.size v1 _ q _ HO1.out HB1.out.size h2.1 h2.2 (by simp; omega)).mono ?_
  rintro e w2 ⟨v2, rfl, ho2, hb2, ht2⟩
  have HO2 : Hid (Own w2 w0.heap.size v2 (bs ++ Wm.put 8 s ++ Wm.put 8 q)) := ho2
  have HB2 : Hid (Below w0.heap.size w0 w2) := HB1.out.trans hb2
  have HT2 : Hid (KeptT Wsp w2) := HT1.out.trans ht2
  clear d0 d1 d2 d3
  obtain ⟨d0, d1, d2, d3⟩ := HSp.out w2 HT2.out
  clear ho2 hb2 ht2
  go_wp2_with fail
  refine (rput_any w0.heap.size v2 _ st _ HO2.out HB2.out.size h3.1 h3.2 (by simp; omega)).mono ?_
  rintro e w3 ⟨v3, rfl, ho3, hb3, ht3⟩
  have HO3 : Hid (Own w3 w0.heap.size v3 (bs ++ Wm.put 8 s ++ Wm.put 8 q ++ Wm.put 8 st)) := ho3
  have HB3 : Hid (Below w0.heap.size w0 w3) := HB2.out.trans hb3
  have HT3 : Hid (KeptT Wsp w3) := HT2.out.trans ht3
  clear d0 d1 d2 d3
  obtain ⟨d0, d1, d2, d3⟩ := HSp.out w3 HT3.out
  clear ho3 hb3 ht3
  go_wp2_with fail
  refine (rputBytes_any w0 v3 _ ao n c body _ HR.out HB3.out HO3.out (by simp; omega)).mono ?_
  rintro e w4 ⟨v4, rfl, ho4, hb4, ht4⟩
  have HO4 : Hid (Own w4 w0.heap.size v4 (bs ++ (puts [s, q, st] ++ (Wm.put 8 n ++ body)))) := by
    have e : bs ++ (puts [s, q, st] ++ (Wm.put 8 n ++ body)) = bs ++ Wm.put 8 s ++ Wm.put 8 q ++ Wm.put 8 st ++ (Wm.put 8 n ++ body) := by simp [puts]
    rw [e]; exact ho4
  have HB4 : Hid (Below w0.heap.size w0 w4) := hb4
  have HT4 : Hid (KeptT w w4) := HTs.out.trans (HT3.out.trans ht4)
  clear ho4 hb4 ht4
  go_wp2_with fail
  go_ret
  exact ⟨_, rfl, HO4, HB4, HT4⟩

end Go.Proofs.Ytbjpbcanmpimnab.Lo
