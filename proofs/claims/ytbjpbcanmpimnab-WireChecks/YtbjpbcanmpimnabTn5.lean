import Derived.Test.YtbjpbcanmpimnabTn3
namespace Go.Proofs.Ytbjpbcanmpimnab.Lo
open Go.RowKit Bk
set_option linter.unusedVariables false
set_option linter.unusedSimpArgs false

theorem own_none {W : World} {B e s n c : Nat} {a : Option Addr} {l : List Value} (h : W.ownsRow B e s (.slice a n c) n l) : (a = none → n = 0 ∧ c = 0) ∧ (n = 0 ∨ ∃ g, a = some ⟨g, 0, none⟩ ∧ ∀ j, j < n * s → W.cell? ⟨g, j, none⟩ = l[j]?) := by
  have h0 := h
  rcases h.2 with ⟨h1, h2⟩ | ⟨g, cap, cur, hv, _⟩
  · simp only [Value.slice.injEq] at h1
    exact ⟨fun _ => ⟨h1.2.1, h1.2.2⟩, .inl h2⟩
  · simp only [Value.slice.injEq] at hv
    obtain ⟨rfl, _, rfl⟩ := hv
    exact ⟨by simp, .inr ⟨g, rfl, fun j hj => World.ownsRow.cellAt h0 j hj⟩⟩

theorem ri_row {W : World} {B n c : Nat} {a : Option Addr} {xs : List Int} (h : W.ownsRow B 3 1 (.slice a n c) n (xs.map (Value.int .i64))) (hl : xs.length = n) : Ri W a n xs := by
  refine ⟨hl, ?_⟩
  rcases (own_none h).2 with h | ⟨g, rfl, hc⟩
  · exact .inl h
  · refine .inr ⟨g, 0, rfl, fun i hi => ?_⟩
    rw [Nat.zero_add, hc i (by omega)]
    simp [List.getD, show i < xs.length by omega]
theorem rd_row {W : World} {B n c : Nat} {a : Option Addr} {xs : List Int} (h : W.ownsRow B 5 1 (.slice a n c) n (xs.map (Value.int .u8))) (hl : xs.length = n) (hr : ∀ i, 0 ≤ xs.getD i 0 ∧ xs.getD i 0 ≤ 255) : Rd W a n c xs := by
  refine ⟨hl, (own_none h).1, ?_, hr⟩
  rcases (own_none h).2 with h | ⟨g, rfl, hc⟩
  · exact .inl h
  · refine .inr ⟨g, 0, rfl, fun i hi => ?_⟩
    rw [Nat.zero_add, hc i (by omega)]
    simp [List.getD, show i < xs.length by omega]
theorem rs_row {W : World} {B n c : Nat} {a : Option Addr} {sl : List (Int × Int)} (h : W.ownsRow B 26 2 (.slice a n c) n (slotCells sl)) (hl : sl.length = n) : Rs W a n sl := by
  refine ⟨hl, ?_⟩
  rcases (own_none h).2 with h | ⟨g, rfl, hc⟩
  · exact .inl h
  · refine .inr ⟨g, 0, rfl, fun i hi => ?_⟩
    have h1 := slotCells_get sl i (by omega)
    rw [Nat.zero_add, hc (i * 2) (by omega), hc (i * 2 + 1) (by omega)]
    exact h1
theorem rm_row {W : World} {B n c : Nat} {a : Option Addr} {es : List Dt} (h : W.ownsRow B 24 4 (.slice a n c) n (datCells es)) (hl : es.length = n) : Rm W a n es := by
  refine ⟨hl, ?_⟩
  rcases (own_none h).2 with h | ⟨g, rfl, hc⟩
  · exact .inl h
  · refine .inr ⟨g, 0, rfl, fun i hi => ?_⟩
    have h1 := datCells_get es i (by omega)
    rw [Nat.zero_add, hc (i * 4) (by omega), hc (i * 4 + 1) (by omega), hc (i * 4 + 2) (by omega), hc (i * 4 + 3) (by omega)]
    exact h1

theorem results_pk (W : World) (tmps : Array Value) (Q : Pk) (k : Nat) (h2 : tmps.getD 2 undef = .pointer (some ⟨k, 0, none⟩)) (hk : W.heap[k]? = some (.cells Q.cs 72 (0, 0))) : (results Try.f21 tmps).run Try.prog W = .ok (.agg Q.cs) W := by
  have h := run_loadVar_row (P := Try.prog) W k 72 72 Q.cs (0, 0) _ hk Try.underlying72 rfl info_pk
  have h3 : tmps[2]?.getD undef = .pointer (some ⟨k, 0, none⟩) := by simpa using h2
  simp [results, Try.results21, h3, asAddr, h]

set_option maxHeartbeats 1000000 in
theorem twin_end {w wr : World} {P : Pk} {xs ss vs hs bs : List Int} {sl : List (Int × Int)} {ds es : List Dt} {bb : List (List Int)} {a1 a2 a3 a4 a5 a6 aj : Option Addr} {c1 c2 c3 c4 c5 c6 cj j : Nat} (h : TS w wr P { P with hA := a1, hN := P.hN, hC := c1, psA := a2, psN := P.psN, psC := c2, pvA := a3, pvN := P.pvN, pvC := c3, fsA := a4, fsN := P.fsN, fsC := c4, fhA := a5, fhN := P.fhN, fhC := c5, tbA := a6, tbN := P.tbN, tbC := c6 } ((5, 1, .slice a6 P.tbN c6, P.tbN, bs.map (Value.int .u8)) :: (3, 1, .slice a5 P.fhN c5, P.fhN, (hs.map (Value.int .i64))) :: (26, 2, .slice a4 P.fsN c4, P.fsN, (slotCells sl)) :: (3, 1, .slice a3 P.pvN c3, P.pvN, (vs.map (Value.int .i64))) :: (3, 1, .slice a2 P.psN c2, P.psN, (ss.map (Value.int .i64))) :: (3, 1, .slice a1 P.hN c1, P.hN, (xs.map (Value.int .i64))) :: []) ds bb j aj cj es)
    (hj : j = P.wmN) (hp : Pw w P xs ss vs hs sl ds) (hn : Pn P) (d1 : Rd w P.tbA P.tbN P.tbC bs) (hbd : ∀ i, i < P.wmN → Rd w (ds.getD i dt0).a (ds.getD i dt0).n (ds.getD i dt0).c (bb.getD i []) ∧ (ds.getD i dt0).n ≤ 140737488351232) (Qf : Pk) (hQ : Qf = { P with hA := a1, hN := P.hN, hC := c1, psA := a2, psN := P.psN, psC := c2, pvA := a3, pvN := P.pvN, pvC := c3, fsA := a4, fsN := P.fsN, fsC := c4, fhA := a5, fhN := P.fhN, fhC := c5, tbA := a6, tbN := P.tbN, tbC := c6, wmA := aj, wmN := j, wmC := cj }) :
    (wr.setRow (w.heap.size + 1) Qf.cs).heap[w.heap.size + 1]? = some (.cells Qf.cs 72 (0, 0)) ∧ Mate P Qf ∧ Pw (wr.setRow (w.heap.size + 1) Qf.cs) Qf xs ss vs hs sl es ∧ Rd (wr.setRow (w.heap.size + 1) Qf.cs) Qf.tbA Qf.tbN Qf.tbC bs ∧ Sam (wr.setRow (w.heap.size + 1) Qf.cs) P.wmN ds es bb ∧ Below w.heap.size w (wr.setRow (w.heap.size + 1) Qf.cs) := by
  subst hj
  have hK : Kept wr (wr.setRow (w.heap.size + 1) Qf.cs) (fun k => k = w.heap.size + 1) := ⟨rfl, rfl, rfl, by simp, fun k _ hk => setRow_other wr _ k _ hk⟩
  have hr := setRow_heap wr (w.heap.size + 1) Pk.zero.cs Qf.cs 72 (0, 0) h.t.r
  have hB : Below w.heap.size w (wr.setRow (w.heap.size + 1) Qf.cs) := h.t.l.trans (hK.below h.t.l.size (fun k hk e => by omega))
  generalize wr.setRow (w.heap.size + 1) Qf.cs = Wf at *
  have ow : ∀ {e s n : Nat} {v : Value} {l : List Value}, wr.ownsRow (w.heap.size + 1 + 1 + 1) e s v n l → Wf.ownsRow (w.heap.size + 1 + 1 + 1) e s v n l := fun ho => hK.owns ho (fun k hk e => by have := (World.ownsRow.lt ho k hk).1; omega)
  have o6 := ow (h.l _ (List.mem_cons_self ..))
  have o5 := ow (h.l _ (List.mem_cons_of_mem _ (List.mem_cons_self ..)))
  have o4 := ow (h.l _ (List.mem_cons_of_mem _ (List.mem_cons_of_mem _ (List.mem_cons_self ..))))
  have o3 := ow (h.l _ (List.mem_cons_of_mem _ (List.mem_cons_of_mem _ (List.mem_cons_of_mem _ (List.mem_cons_self ..)))))
  have o2 := ow (h.l _ (List.mem_cons_of_mem _ (List.mem_cons_of_mem _ (List.mem_cons_of_mem _ (List.mem_cons_of_mem _ (List.mem_cons_self ..))))))
  have o1 := ow (h.l _ (List.mem_cons_of_mem _ (List.mem_cons_of_mem _ (List.mem_cons_of_mem _ (List.mem_cons_of_mem _ (List.mem_cons_of_mem _ (List.mem_cons_self ..)))))))
  have om := ow h.o
  subst hQ
  refine ⟨hr, ⟨rfl, rfl, rfl, rfl, rfl, rfl, rfl, rfl, rfl, rfl, rfl, rfl, rfl, rfl, rfl, rfl, rfl, rfl, rfl, rfl, rfl, rfl, rfl, rfl, rfl, rfl, rfl, rfl, rfl, rfl, rfl, rfl, rfl, rfl, rfl, rfl, rfl, rfl, rfl, rfl, rfl, rfl, rfl, rfl, rfl⟩, ⟨ri_row o1 hp.h.1, ri_row o2 hp.ps.1, ri_row o3 hp.pv.1, ri_row o5 hp.fh.1, rs_row o4 hp.fs.1, rm_row om h.len, hp.lh, hp.lps, hp.lpv, hp.lfh, hp.lfs, hp.lwm⟩, rd_row o6 d1.1 d1.2.2.2, ?_, hB⟩
  intro i hi
  obtain ⟨r1, r2⟩ := hbd i hi
  obtain ⟨m1, m2, m3, m4⟩ := h.m i hi
  exact ⟨m1, m2, m3, m4, r1.below hB, rd_row (ow (h.b i hi)) (by rw [m4]; exact r1.1) r1.2.2.2, by omega⟩

end Go.Proofs.Ytbjpbcanmpimnab.Lo
