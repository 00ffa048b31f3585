import Derived.Test.YtpgckdbjedepcaaDoorMhm
namespace Go.Proofs.YtpgckdbjedepcaaDoor.Mh
open Go.RowKit Mb Go.Maps
set_option linter.unusedVariables false
set_option maxRecDepth 100000
set_option linter.unusedSimpArgs false
section
variable {w w' W : World} {B : Nat}
def nwL (pb lb : Nat) : List Value := [.map (some pb), .map (some lb), .int .i64 0, .int .i64 0, .int .i64 0, .int .i64 0, .string ⟨#[]⟩, .int .i64 0, .int .i64 0, .int .i64 0, .int .i64 0, .string ⟨#[]⟩, .int .i64 0, .int .i64 0, .int .i64 0, .int .i64 0, .string ⟨#[]⟩, .int .i64 0, .int .i64 0, .int .i64 0, .int .i64 0, .string ⟨#[]⟩, .int .i64 0, .int .i64 0, .int .i64 0, .int .i64 0, .string ⟨#[]⟩, .int .i64 0, .int .i64 0, .int .i64 0, .int .i64 0, .string ⟨#[]⟩, .int .i64 0, .int .i64 0, .int .i64 0, .int .i64 0, .string ⟨#[]⟩, .int .i64 0, .int .i64 0, .int .i64 0, .int .i64 0, .string ⟨#[]⟩, .int .i64 0, .int .i64 0, .int .i64 0, .int .i64 0, .string ⟨#[]⟩, .int .i64 0, .int .i64 0, .int .i64 0, .int .i64 0, .string ⟨#[]⟩, .int .i64 0, .int .i64 0, .int .i64 0, .int .i64 0, .string ⟨#[]⟩, .int .i64 0, .int .i64 0, .int .i64 0, .int .i64 0, .string ⟨#[]⟩, .int .i64 0, .int .i64 0, .int .i64 0, .int .i64 0, .string ⟨#[]⟩, .int .i64 0, .int .i64 0, .int .i64 0, .int .i64 0, .string ⟨#[]⟩, .int .i64 0, .int .i64 0, .int .i64 0, .int .i64 0, .string ⟨#[]⟩, .int .i64 0, .int .i64 0, .int .i64 0, .int .i64 0, .string ⟨#[]⟩, .int .i64 0]
def nwF (pb lb : Nat) : Nat → Value := fun j => (nwL pb lb).getD j undef
theorem nw_sess (pb lb : Nat) : ∀ q, q < 16 → nwF pb lb (3 + q * 5) = .int .i64 0 ∧ nwF pb lb (3 + q * 5 + 1) = .int .i64 0 ∧ nwF pb lb (3 + q * 5 + 2) = .int .i64 0 ∧ nwF pb lb (3 + q * 5 + 3) = .string ⟨#[]⟩ ∧ nwF pb lb (3 + q * 5 + 4) = .int .i64 0 := by
  intro q hq
  match q, hq with
  | 0, _ => exact ⟨rfl, rfl, rfl, rfl, rfl⟩
  | 1, _ => exact ⟨rfl, rfl, rfl, rfl, rfl⟩
  | 2, _ => exact ⟨rfl, rfl, rfl, rfl, rfl⟩
  | 3, _ => exact ⟨rfl, rfl, rfl, rfl, rfl⟩
  | 4, _ => exact ⟨rfl, rfl, rfl, rfl, rfl⟩
  | 5, _ => exact ⟨rfl, rfl, rfl, rfl, rfl⟩
  | 6, _ => exact ⟨rfl, rfl, rfl, rfl, rfl⟩
  | 7, _ => exact ⟨rfl, rfl, rfl, rfl, rfl⟩
  | 8, _ => exact ⟨rfl, rfl, rfl, rfl, rfl⟩
  | 9, _ => exact ⟨rfl, rfl, rfl, rfl, rfl⟩
  | 10, _ => exact ⟨rfl, rfl, rfl, rfl, rfl⟩
  | 11, _ => exact ⟨rfl, rfl, rfl, rfl, rfl⟩
  | 12, _ => exact ⟨rfl, rfl, rfl, rfl, rfl⟩
  | 13, _ => exact ⟨rfl, rfl, rfl, rfl, rfl⟩
  | 14, _ => exact ⟨rfl, rfl, rfl, rfl, rfl⟩
  | 15, _ => exact ⟨rfl, rfl, rfl, rfl, rfl⟩
  | q + 16, hq => omega
theorem nwE (pb lb : Nat) : (Tryd.zeroCells40.setIfInBounds 0 (.map (some pb))).setIfInBounds 1 (.map (some lb)) = (nwL pb lb).toArray := by kernel_rfl
theorem Fb_of {k t : Nat} {L : List Value} (h : w.heap[k]? = some (.cells L.toArray t (0, 0))) : Fb w k t L.length (fun j => L.getD j undef) :=
  ⟨L.toArray, h, by simp, fun i hi => by simp [List.getD, hi]⟩
set_option maxHeartbeats 4000000 in
theorem new_any : Calls Tryd.prog 4 #[] w fun e w' => ∃ mb pb lb, e = .returned (.pointer (some ⟨mb, 0, none⟩)) ∧ Ms w' mb pb lb 0 (nwF pb lb) (.map []) ∧ Below w.heap.size w w' ∧ w.heap.size ≤ mb ∧ w.heap.size ≤ pb := by
  have hmm := @run_makeMap Tryd.prog
  obtain ⟨W1, hW1⟩ : ∃ X, w.alloc (.map #[] 0) = X := ⟨_, rfl⟩
  obtain ⟨W2, hW2⟩ : ∃ X, W1.alloc (.map #[] 0) = X := ⟨_, rfl⟩
  obtain ⟨W3, hW3⟩ : ∃ X, W2.alloc (.cells (nwL w.heap.size W1.heap.size).toArray 40) = X := ⟨_, rfl⟩
  have o1 : W1.ownsMap Tryd.prog 9 prE w.heap.size 0 (.map []) := by rw [← hW1]; exact World.ownsMap_made _ _ _ _
  have o2 : W2.ownsMap Tryd.prog 9 lkE W1.heap.size 0 (.map []) := by rw [← hW2]; exact World.ownsMap_made _ _ _ _
  have b1 : Below w.heap.size w W1 := by rw [← hW1]; exact balloc (Below.refl _ _)
  have b2 : Below W1.heap.size W1 W2 := by rw [← hW2]; exact balloc (Below.refl _ _)
  have b3 : Below W2.heap.size W2 W3 := by rw [← hW3]; exact balloc (Below.refl _ _)
  have hb : W3.heap[W2.heap.size]? = some (.cells (nwL w.heap.size W1.heap.size).toArray 40 (0, 0)) := by rw [← hW3]; exact heap_alloc_new W2 _
  have s1 : W1.heap.size = w.heap.size + 1 := by rw [← hW1]; simp
  have s2 : W2.heap.size = w.heap.size + 2 := by rw [← hW2]; simp [s1]
  have HM : Hid (Ms W3 W2.heap.size w.heap.size W1.heap.size 0 (nwF w.heap.size W1.heap.size) (.map [])) := ⟨Fb_of hb, rfl, rfl, Om_below o1 (bstep b2 b3), Om_below o2 b3, by omega, fun q hq => by
    obtain ⟨h0, h1, h2, h3, h4⟩ := nw_sess w.heap.size W1.heap.size q hq
    exact ⟨0, 0, 0, 0, _, h0, h1, h2, h3, h4⟩⟩
  have HB : Hid (Below w.heap.size w W3) := bstep (bstep b1 b2) b3
  clear o1 o2 b1 b2 b3 hb
  rw [← nwE, s1] at hW3
  rw [s1, s2] at HM
  go_enter Tryd.func4, Tryd.ntmps4
  go_wp2
  (try simp only [Exit.inBlock, Exit.then])
  refine bodyPost_ret (results_tmp Tryd.results4 _ _ _) rfl ?_
  exact ⟨w.heap.size + 2, w.heap.size, w.heap.size + 1, rfl, HM.out, HB.out, by omega, by omega⟩
theorem apply_set {mb pb lb n : Nat} {f : Nat → Value} (h : Ms w mb pb lb n f (.map [])) (hn : n ≤ 1000) {q : Nat} (hq : q < 16) {inc req a r : Int} {v : ByteArray} (e0 : f (3 + q * 5) = .int .i64 a) (e1 : f (3 + q * 5 + 1) = .int .i64 r) (hnew : a < inc ∨ (a = inc ∧ r < req)) (h3 : 1 ≤ inc) (h4 : inc ≤ 4611686018427387904) (h5 : 1 ≤ req) (h6 : req ≤ 4611686018427387904) (hv : v.size ≤ 8) :
    Calls Tryd.prog 5 #[.pointer (some ⟨mb, 0, none⟩), .agg #[.int .i64 (q : Int), .int .i64 inc, .int .i64 req, .int .i64 1, .string lead, .string v, .string emp]] w fun e w' => e = .returned (.agg #[.int .i64 1, .string ⟨#[]⟩, .int .i64 0]) ∧ Ms w' mb pb lb (n + 1) (upS f q [.int .i64 inc, .int .i64 req, .int .i64 1, .string ⟨#[]⟩, .int .i64 0]) (mp v) ∧ Kept w w' (fun j => j = mb ∨ j = pb) :=
  apply_new h hq e0 e1 hnew (fun X => check_set v (by omega) (by omega) h3 h4 h5 h6 hv) (fun X => copied_any v emp hv (by decide)) (fun X hX => carry1 hX hq (fun Y g0 hm => set_new g0 hm hn _ _ _ _ _ _))
theorem apply_yes {mb pb lb n : Nat} {f : Nat → Value} {cur : ByteArray} (h : Ms w mb pb lb n f (mp cur)) (hn : n ≤ 1000) {q : Nat} (hq : q < 16) {inc req a r : Int} {v old : ByteArray} (e0 : f (3 + q * 5) = .int .i64 a) (e1 : f (3 + q * 5 + 1) = .int .i64 r) (hnew : a < inc ∨ (a = inc ∧ r < req)) (h3 : 1 ≤ inc) (h4 : inc ≤ 4611686018427387904) (h5 : 1 ≤ req) (h6 : req ≤ 4611686018427387904) (hv : v.size ≤ 8) (ho : old.size ≤ 8) (hc : cur = old) :
    Calls Tryd.prog 5 #[.pointer (some ⟨mb, 0, none⟩), .agg #[.int .i64 (q : Int), .int .i64 inc, .int .i64 req, .int .i64 3, .string lead, .string v, .string old]] w fun e w' => e = .returned (.agg #[.int .i64 1, .string cur, .int .i64 1]) ∧ Ms w' mb pb lb (n + 1) (upS f q [.int .i64 inc, .int .i64 req, .int .i64 1, .string cur, .int .i64 1]) (mp v) ∧ Kept w w' (fun j => j = mb ∨ j = pb) :=
  apply_new h hq e0 e1 hnew (fun X => check_cas v old (by omega) (by omega) h3 h4 h5 h6 hv ho) (fun X => copied_any v old hv ho) (fun X hX => carry3 hX hq (fun Y g0 hm => cas_yes g0 hm hn _ _ _ _ _ _ hc))
theorem apply_no {mb pb lb n : Nat} {f : Nat → Value} {cur : ByteArray} (h : Ms w mb pb lb n f (mp cur)) (hn : n ≤ 1000) {q : Nat} (hq : q < 16) {inc req a r : Int} {v old : ByteArray} (e0 : f (3 + q * 5) = .int .i64 a) (e1 : f (3 + q * 5 + 1) = .int .i64 r) (hnew : a < inc ∨ (a = inc ∧ r < req)) (h3 : 1 ≤ inc) (h4 : inc ≤ 4611686018427387904) (h5 : 1 ≤ req) (h6 : req ≤ 4611686018427387904) (hv : v.size ≤ 8) (ho : old.size ≤ 8) (hc : cur ≠ old) :
    Calls Tryd.prog 5 #[.pointer (some ⟨mb, 0, none⟩), .agg #[.int .i64 (q : Int), .int .i64 inc, .int .i64 req, .int .i64 3, .string lead, .string v, .string old]] w fun e w' => e = .returned (.agg #[.int .i64 3, .string cur, .int .i64 1]) ∧ Ms w' mb pb lb n (upS f q [.int .i64 inc, .int .i64 req, .int .i64 3, .string cur, .int .i64 1]) (mp cur) ∧ Kept w w' (fun j => j = mb ∨ j = pb) :=
  apply_new h hq e0 e1 hnew (fun X => check_cas v old (by omega) (by omega) h3 h4 h5 h6 hv ho) (fun X => copied_any v old hv ho) (fun X hX => carry3 hX hq (fun Y g0 hm => cas_no g0 hm hn _ _ _ _ _ _ hc))
end
end Go.Proofs.YtpgckdbjedepcaaDoor.Mh
