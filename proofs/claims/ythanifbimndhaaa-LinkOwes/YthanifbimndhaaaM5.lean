import Derived.Test.YthanifbimndhaaaM4
namespace Go.Proofs.Ythanifbimndhaaa.Ln
set_option maxHeartbeats 40000000
open Go.RowKit Mb
set_option linter.unusedVariables false
set_option maxRecDepth 100000
set_option linter.unusedSimpArgs false
section
variable {w w' W : World} {B win room : Nat} {S S' : St} {E E' : En} {M M' : Mx}
def En.ow (E : En) : En := { E with owed := true }
theorem ow_ok {w2 : World} (h : E.Ok w2 B win room) : E.ow.Ok (w2.setCell ⟨E.b, 5, none⟩ (.bool true)) B win room := by
 have k : Kept w2 (w2.setCell ⟨E.b, 5, none⟩ (.bool true)) (fun j => j = E.b) := kset _ _ _ _ rfl
 have hbl : (w2.setCell ⟨E.b, 5, none⟩ (.bool true)).heap[E.b]? = some (.cells E.ow.cs 100 (0, 0)) := blk_set h.blk (by simp [En.cs, En.ow])
 exact { h with blk := hbl, oo := h.oo.keep k (fun j hj e => h.ne_o (by rw [<- e]; exact hj)), ii := h.ii.keep k (fun j hj e => h.ne_i (by rw [<- e]; exact hj)) }
theorem ow_fin {w2 w3 : World} (h : E.Ok w B win room) (hb : Below w.heap.size w w2) (hb3 : Below (w2.setCell ⟨E.b, 5, none⟩ (.bool true)).heap.size (w2.setCell ⟨E.b, 5, none⟩ (.bool true)) w3) : Estep w w3 B win room E E.ow := by
 have h3 := ow_ok (h.still hb)
 have k : Kept w2 (w2.setCell ⟨E.b, 5, none⟩ (.bool true)) (fun j => j = E.b) := kset _ _ _ _ rfl
 exact ⟨rfl, h3.still hb3, ((Kept.ofBelow hb _).step k (fun j hj => .inl (.inl hj))).step (Kept.ofBelow hb3 (fun _ => False)) (fun j hj => hj.elim), fun j hj => .inl hj⟩
structure TPut (w w4 : World) (B win room : Nat) (E : En) (n : Nat) (bs : List Int) (S' : St) : Prop where
 p : S'.p = E.i.p
 f : ∃ k, S'.f = upd E.i.f n (some ⟨k, bs⟩)
 blk : w4.heap[E.b]? = some (.cells ({ E with i := S', owed := true } : En).cs 100 (0, 0))
 ok : S'.Ok w4 B
 oo : E.o.Ok w4 B
 kept : Kept w w4 E.own
 own : ∀ j, S'.own j -> E.i.own j ∨ w.heap.size ≤ j
theorem tput_fin {w2 D w3 w4 : World} {n : Nat} {bs : List Int} (h : E.Ok w B win room) (hB : B ≤ w.heap.size) (hb2 : Below w.heap.size w w2) (hU : Below (w2.setCell ⟨E.b, 5, none⟩ (.bool true)).heap.size (w2.setCell ⟨E.b, 5, none⟩ (.bool true)) D) (hb3 : Below D.heap.size D w3) (hl1 : 0 < bs.length) (hl2 : bs.length ≤ 300) (hby : By bs) (hbk : Bk w3 D.heap.size bs) :
  E.i.Ok w3 B /\ B ≤ w3.heap.size /\ w3.heap[E.b]? = some (.cells E.ow.cs 100 (0, 0)) /\ Body w3 B ⟨D.heap.size, bs⟩ /\ ¬ E.i.own D.heap.size /\
  (PutO w3 w4 B E.i E.b 3 n ⟨D.heap.size, bs⟩ E.ow.cs -> ∃ S', TPut w w4 B win room E n bs S') := by
 have h2 := h.still hb2
 have s1 := ow_fin h hb2 (w3 := w3) (bstep hU hb3)
 have hsz : (w2.setCell ⟨E.b, 5, none⟩ (.bool true)).heap.size = w2.heap.size := by simp
 have hVs : w2.heap.size ≤ D.heap.size := by rw [<- hsz]; exact hU.size
 have hw2 := hb2.size
 have hno : ∀ j, E.own j -> j < D.heap.size := fun j hj => by have := h.lt hj; omega
 refine ⟨s1.ok.ii, by have := hb3.size; omega, s1.ok.blk, ⟨hbk, hby, hl1, hl2, by show B ≤ D.heap.size; omega⟩, fun hj => by have := hno _ (.inr (.inr hj)); omega, ?_⟩
 rintro ⟨⟨N, g, cs', hok, hN, hnN, hg, hblk, hsz', hr, hrest, hk4⟩⟩
 have hV3 : D.heap.size < w3.heap.size := hbk.lt
 have hcs : cs' = ({ E with i := { p := E.i.p, L := N, rb := g, f := upd E.i.f n (some ⟨D.heap.size, bs⟩) }, owed := true } : En).cs := arr_upd hr hrest rfl (fun i hi => by rcases i with _ | _ | _ | _ | _ | _ | i <;> first | rfl | exact absurd rfl hi)
 subst hcs
 refine ⟨{ p := E.i.p, L := N, rb := g, f := upd E.i.f n (some ⟨D.heap.size, bs⟩) }, rfl, ⟨_, rfl⟩, hblk, hok, ?_, ?_, ?_⟩
 ·exact s1.ok.oo.keep hk4 fun j hj e => e.elim (fun e => h2.ne_o (by rw [<- e]; exact hj)) (fun e => h.ap j hj (.inl e))
 ·exact s1.kept.step hk4 (fun j hj => hj.elim (fun e => .inl (.inl e)) (fun e => .inl (.inr (.inr (.inl e)))))
 ·rintro j (⟨_, hj⟩ | ⟨m, b, hb, rfl⟩)
  ·have hj' : j = g := hj
   rcases hg with ⟨e1, e2⟩ | hg
   ·exact .inl (.inl ⟨by rw [<- e1]; exact hN, hj'.trans e2⟩)
   ·right; omega
  ·by_cases e : m = n
   ·simp only [e, upd_same, Option.some.injEq] at hb; subst hb; right; show w.heap.size ≤ D.heap.size; omega
   ·simp only [upd_ne _ _ e] at hb; exact .inl (.inr ⟨m, b, hb, rfl⟩)
structure TookO (w w' : World) (B win room : Nat) (E : En) (n : Nat) (bs : List Int) (r : Ending) : Prop where
 out : ∃ (E' : En) (bl : List Bd) (a : Option Addr) (c : Nat), r = .returned (.tuple #[.slice a bl.length c, .int .i64 0]) /\ Estep w w' B win room E E' /\ E'.pu = E.pu.took n bs win /\ bl.map Bd.bs = E.pu.tookO n bs win /\ (∀ b ∈ bl, Body w' B b /\ ¬ E'.own b.k /\ (E.own b.k ∨ w.heap.size ≤ b.k)) /\ (bl.map Bd.k).Nodup /\ w'.ownsRow w.heap.size 40 1 (.slice a bl.length c) bl.length (bl.map Bd.v)
theorem tpass_fin {w4 w5 w6 : World} {n : Nat} {bs : List Int} {a : Option Addr} {c : Nat} (h : E.Ok w B win room) (hn1 : n ≤ E.i.p + win) (hn62 : n ≤ 4611686018427387904) (t : TPut w w4 B win room E n bs S') (hb : Below w4.heap.size w4 w5) (hrow : w5.ownsRow w4.heap.size 40 1 (.slice a (takeN S'.f S'.p win).length c) (takeN S'.f S'.p win).length ((takeN S'.f S'.p win).map Bd.v)) :
  S'.p + (takeN S'.f S'.p win).length ≤ S'.p + S'.L /\ S'.p + (takeN S'.f S'.p win).length ≤ 4611686018427387904 /\
  (PassO w5 w6 B S' E.b 3 (S'.p + (takeN S'.f S'.p win).length) ({ E with i := S', owed := true } : En).cs -> TookO w w6 B win room E n bs (.returned (.tuple #[.slice a (takeN S'.f S'.p win).length c, .int .i64 0]))) := by
 have hp0 := t.p
 have hkept : ∀ m b, S'.f m = some b -> m ≤ E.i.p + win /\ m ≤ 4611686018427387904 := fun m b hm => by
  obtain ⟨k, hf⟩ := t.f
  rw [hf] at hm
  by_cases e : m = n
  ·subst e; exact ⟨hn1, hn62⟩
  ·rw [upd_ne _ _ e] at hm; exact h.iw m b hm
 have hlast : 0 < (takeN S'.f S'.p win).length -> ∃ b, S'.f (S'.p + (takeN S'.f S'.p win).length) = some b := fun hl => by
  have := takeN_at S'.f win S'.p ((takeN S'.f S'.p win).length - 1) (by omega)
  rw [show S'.p + ((takeN S'.f S'.p win).length - 1) + 1 = S'.p + (takeN S'.f S'.p win).length by omega] at this
  exact ⟨_, this.trans (List.getElem?_eq_getElem (by omega))⟩
 have hend := takeN_end S'.f win S'.p
 have hat := takeN_at S'.f win S'.p
 have hPs := takeN_P S'.f win S'.p
 have hlenle := takeN_len S'.f win S'.p
 generalize hbl : takeN S'.f S'.p win = bl at *
 have hA : S'.p + bl.length ≤ S'.p + S'.L := by
  rcases Nat.eq_zero_or_pos bl.length with e | e
  ·omega
  ·obtain ⟨b, hb⟩ := hlast e
   exact (t.ok.inw _ b hb).2
 have hC : S'.p + bl.length ≤ 4611686018427387904 := by
  rcases Nat.eq_zero_or_pos bl.length with e | e
  ·have := t.ok.p62; omega
  ·obtain ⟨b, hb⟩ := hlast e
   exact (hkept _ b hb).2
 refine ⟨hA, hC, fun hp => ?_⟩
 obtain ⟨cs', hblk, hsz, hr, hrest⟩ := hp.hd
 have hcs : cs' = ({ E with i := S'.pass (S'.p + bl.length), owed := true } : En).cs := arr_upd hr hrest rfl (fun i hi => by rcases i with _ | _ | _ | _ | _ | _ | i <;> first | rfl | exact absurd rfl hi)
 subst hcs
 have hbE4 := t.blk
 have ho5 := t.oo.still hb
 have hneO : ¬ E.o.own E.b := t.oo.ne_t hbE4 (by decide) (by decide)
 have hneS : ¬ S'.own E.b := t.ok.ne_t hbE4 (by decide) (by decide)
 have hap : ∀ j, E.o.own j -> S'.own j -> False := fun j h1 h2 => by
  rcases t.own j h2 with h3 | h3
  ·exact h.ap j h1 h3
  ·have := h.lt (.inr (.inl h1)); omega
 have hkp : Kept w w6 E.own := (t.kept.step (Kept.ofBelow hb (fun _ => False)) (fun j hj => hj.elim)).step hp.kept (fun j hj => hj.elim (fun e => .inl (.inl e)) (fun e => (t.own j (.inl e)).imp (fun h1 => .inr (.inr h1)) id))
 have hu : max S'.p (S'.p + bl.length) = S'.p + bl.length := by omega
 have hfu : ∀ m, (S'.pass (S'.p + bl.length)).f m = if m ≤ S'.p + bl.length then none else S'.f m := fun m => rfl
 have hpu : (S'.pass (S'.p + bl.length)).p = S'.p + bl.length := hu
 have hfe : ∀ m b, (S'.pass (S'.p + bl.length)).f m = some b -> S'.f m = some b /\ S'.p + bl.length < m := fun m b hm => by
  rw [hfu] at hm
  by_cases e : m ≤ S'.p + bl.length
  ·rw [if_pos e] at hm; cases hm
  ·rw [if_neg e] at hm; exact ⟨hm, by omega⟩
 have hbd : ∀ i, (hi : i < bl.length) -> S'.f (S'.p + i + 1) = some bl[i] := fun i hi => (hat i hi).trans (List.getElem?_eq_getElem hi)
 refine ⟨{ E with i := S'.pass (S'.p + bl.length), owed := true }, bl, a, c, rfl, ⟨rfl, ⟨hblk, h.lo, ?_, hp.ok, ?_, h.s1, h.s2, h.s62, h.all, h.top, ?_, ?_⟩, hkp, ?_⟩, ?_, ?_, ?_, ?_, ?_⟩
 ·exact ho5.keep hp.kept fun j hj e => e.elim (fun e => hneO (by rw [<- e]; exact hj)) (fun e => hap j hj (.inl e))
 ·exact fun j hj hj2 => hap j hj (pass_own hj2)
 ·intro m b hm
  obtain ⟨h1, h2⟩ := hfe m b hm
  have h3 := hkept m b h1
  refine ⟨?_, h3.2⟩
  show m ≤ (S'.pass (S'.p + bl.length)).p + win
  rw [hpu]; omega
 ·show (S'.pass (S'.p + bl.length)).f ((S'.pass (S'.p + bl.length)).p + 1) = none
  rw [hpu, hfu, if_neg (by omega)]
  rcases hend with e | e
  ·cases e2 : S'.f (S'.p + bl.length + 1) with
   | none => rfl
   | some b => have := (hkept _ b e2).1; omega
  ·exact e
 ·rintro j (rfl | hj | hj)
  ·exact .inl (.inl rfl)
  ·exact .inl (.inr (.inl hj))
  ·exact (t.own j (pass_own hj)).imp (fun h1 => .inr (.inr h1)) id
 ·obtain ⟨k, hf⟩ := t.f
  have e1 : (fun m => (S'.f m).map Bd.bs) = upd E.pu.ib n (some bs) := by rw [hf, map_upd]; rfl
  have e2 : E.pu.tookO n bs win = bl.map Bd.bs := by unfold Ep.tookO; rw [hPs, e1, hp0]; rfl
  have e3 : (E.pu.tookO n bs win).length = bl.length := by rw [e2, List.length_map]
  have e4 : (fun m => ((S'.pass (S'.p + bl.length)).f m).map Bd.bs) = fun m => if m ≤ E.pu.ip + bl.length then none else upd E.pu.ib n (some bs) m := by
   funext m
   rw [hfu, hp0]
   by_cases e : m ≤ E.i.p + bl.length
   ·rw [if_pos e]; exact (if_pos e).symm
   ·rw [if_neg e]; exact (congrFun e1 m).trans (if_neg e).symm
  have e5 : (S'.pass (S'.p + bl.length)).p = E.pu.ip + bl.length := by rw [hpu, hp0]; rfl
  unfold Ep.took
  rw [e3]
  show (⟨E.o.p, E.sent, fun m => (E.o.f m).map Bd.bs, (S'.pass (S'.p + bl.length)).p, fun m => ((S'.pass (S'.p + bl.length)).f m).map Bd.bs, true⟩ : Ep) = _
  rw [e4, e5]
  rfl
 ·obtain ⟨k, hf⟩ := t.f
  have e1 : (fun m => (S'.f m).map Bd.bs) = upd E.pu.ib n (some bs) := by rw [hf, map_upd]; rfl
  unfold Ep.tookO; rw [hPs, e1, hp0]; rfl
 ·intro b hb2
  obtain ⟨i, hi, rfl⟩ := List.mem_iff_getElem.1 hb2
  have hfi := hbd i hi
  have hown : S'.own bl[i].k := .inr ⟨_, _, hfi, rfl⟩
  refine ⟨((t.ok.el _ _ hfi).still hb).keep hp.kept ?_, ?_, ?_⟩
  ·rintro (e | ⟨e1, e2⟩)
   ·exact hneS (by rw [<- e]; exact hown)
   ·exact t.ok.ne e1 hfi e2
  ·rintro (e | e | e)
   ·exact hneS (by rw [<- show bl[i].k = E.b from e]; exact hown)
   ·exact hap _ e hown
   ·rcases e with ⟨e1, e2⟩ | ⟨m, b', hm, e2⟩
    ·exact t.ok.ne e1 hfi e2
    ·obtain ⟨h1, h2⟩ := hfe m b' hm
     have := t.ok.inj _ _ _ _ hfi h1 e2
     omega
  ·exact (t.own _ hown).imp (fun h1 => .inr (.inr h1)) id
 ·unfold List.Nodup
  rw [List.pairwise_iff_getElem]
  intro i j hi hj hij e
  simp only [List.length_map] at hi hj
  simp only [List.getElem_map] at e
  have := t.ok.inj _ _ _ _ (hbd i hi) (hbd j hj) e
  omega
 ·refine own_lower (Kept.owns hp.kept hrow fun g hg => ?_) t.kept.size
  have hgl := (World.ownsRow.lt hrow g hg).1
  rintro (e | ⟨e1, e2⟩)
  ·have := lt_heap hbE4; omega
  ·have := t.ok.lt (.inl ⟨e1, rfl⟩); omega
theorem take_no (h : M.Ok w B) {q : Int} (hq : M.at q = none) (t : Tg) (u : Int) {ao : Option Addr} {n c : Nat} : Calls Try.prog 28 #[.pointer (some ⟨M.b, 0, none⟩), .int .i64 q, .agg #[.int .i64 t.e, .int .i64 t.l, .int .i64 t.i, .int .i64 t.c, .int .i64 u, .slice ao n c]] w fun e w' => e = .returned (.tuple #[.slice none 0 0, .int .i64 41]) /\ Below w.heap.size w w' := by
 have HP : Hid (∀ w1, Below w.heap.size w w1 -> Calls Try.prog 60 #[.pointer (some ⟨M.b, 0, none⟩), .int .i64 q] w1 fun e w' => e = .returned (.pointer none) /\ w1 = w') := fun w1 hb => (show Calls _ _ _ _ _ from by have := peer_any (h.still hb) q; rw [hq] at this; exact this)
 generalize hW : w.alloc (.cells #[.int .i64 t.e, .int .i64 t.l, .int .i64 t.i, .int .i64 t.c, .int .i64 u, .slice ao n c] 55) = W
 have hbW := bW0 hW
 have hblk := hQ0 hW
 have a0 : W.cell? ⟨w.heap.size, 0, none⟩ = some (.int .i64 t.e) := bC hblk 0
 have a1 : W.cell? ⟨w.heap.size, 1, none⟩ = some (.int .i64 t.l) := bC hblk 1
 have a2 : W.cell? ⟨w.heap.size, 2, none⟩ = some (.int .i64 t.i) := bC hblk 2
 have a3 : W.cell? ⟨w.heap.size, 3, none⟩ = some (.int .i64 t.c) := bC hblk 3
 have a4 : W.cell? ⟨w.heap.size, 4, none⟩ = some (.int .i64 u) := bC hblk 4
 have a5 : W.cell? ⟨w.heap.size, 5, none⟩ = some (.slice ao n c) := bC hblk 5
 have HPW := HP.out W hbW
 have HPh : Hid (Calls _ _ _ _ _) := HPW
 have HBW : Hid (Below w.heap.size w W) := hbW
 clear h hq HPW hblk hbW
 go_enter Try.func28, Try.ntmps28
 go_wp2_with (first | (go_at_call 60; refine HPh.out.mono ?_; rintro e w' ⟨rfl, rfl⟩) | fail)
 exact bodyPost_ret (v := .tuple #[.slice none 0 0, .int .i64 41]) (by simp [results, Try.results28, go_sem]) rfl ⟨rfl, HBW.out⟩
theorem take_arg1 (h : M.Ok w B) {q : Int} (hq : M.at q = some E) (t : Tg) (u : Int) {ao : Option Addr} {n c : Nat} (hu : inR 1 4611686018427387904 u = false) : Calls Try.prog 28 #[.pointer (some ⟨M.b, 0, none⟩), .int .i64 q, .agg #[.int .i64 t.e, .int .i64 t.l, .int .i64 t.i, .int .i64 t.c, .int .i64 u, .slice ao n c]] w fun e w' => e = .returned (.tuple #[.slice none 0 0, .int .i64 1]) /\ Below w.heap.size w w' := by
 have HP : Hid (∀ w1, Below w.heap.size w w1 -> Calls Try.prog 60 #[.pointer (some ⟨M.b, 0, none⟩), .int .i64 q] w1 fun e w' => e = .returned (.pointer (some ⟨E.b, 0, none⟩)) /\ w1 = w') := fun w1 hb => (show Calls _ _ _ _ _ from by have := peer_any (h.still hb) q; rw [hq] at this; exact this)
 generalize hW : w.alloc (.cells #[.int .i64 t.e, .int .i64 t.l, .int .i64 t.i, .int .i64 t.c, .int .i64 u, .slice ao n c] 55) = W
 have hbW := bW0 hW
 have hblk := hQ0 hW
 have a0 : W.cell? ⟨w.heap.size, 0, none⟩ = some (.int .i64 t.e) := bC hblk 0
 have a1 : W.cell? ⟨w.heap.size, 1, none⟩ = some (.int .i64 t.l) := bC hblk 1
 have a2 : W.cell? ⟨w.heap.size, 2, none⟩ = some (.int .i64 t.i) := bC hblk 2
 have a3 : W.cell? ⟨w.heap.size, 3, none⟩ = some (.int .i64 t.c) := bC hblk 3
 have a4 : W.cell? ⟨w.heap.size, 4, none⟩ = some (.int .i64 u) := bC hblk 4
 have a5 : W.cell? ⟨w.heap.size, 5, none⟩ = some (.slice ao n c) := bC hblk 5
 have HPW := HP.out W hbW
 have HPh : Hid (Calls _ _ _ _ _) := HPW
 have HBW : Hid (Below w.heap.size w W) := hbW
 have HWi : Hid (Calls Try.prog 66 #[.int .i64 u, .int .i64 1, .int .i64 4611686018427387904] W fun e w' => e = .returned (.bool false) /\ W = w') := (show Calls _ _ _ _ _ from by rw [<- hu]; exact within_any u 1 4611686018427387904)
 clear h hq HPW hblk hbW hu
 go_enter Try.func28, Try.ntmps28
 go_wp2_with (first | (go_at_call 60; refine HPh.out.mono ?_; rintro e w' ⟨rfl, rfl⟩) | (go_at_call 66; refine HWi.out.mono ?_; rintro e w' ⟨rfl, rfl⟩) | fail)
 exact bodyPost_ret (v := .tuple #[.slice none 0 0, .int .i64 1]) (by simp [results, Try.results28, go_sem]) rfl ⟨rfl, HBW.out⟩
theorem take_arg2 (h : M.Ok w B) {q : Int} (hq : M.at q = some E) (t : Tg) (u : Int) {ao : Option Addr} {n c : Nat} (hu : inR 1 4611686018427387904 u = true) (hn : inR 1 300 (n : Int) = false) : Calls Try.prog 28 #[.pointer (some ⟨M.b, 0, none⟩), .int .i64 q, .agg #[.int .i64 t.e, .int .i64 t.l, .int .i64 t.i, .int .i64 t.c, .int .i64 u, .slice ao n c]] w fun e w' => e = .returned (.tuple #[.slice none 0 0, .int .i64 1]) /\ Below w.heap.size w w' := by
 have HP : Hid (∀ w1, Below w.heap.size w w1 -> Calls Try.prog 60 #[.pointer (some ⟨M.b, 0, none⟩), .int .i64 q] w1 fun e w' => e = .returned (.pointer (some ⟨E.b, 0, none⟩)) /\ w1 = w') := fun w1 hb => (show Calls _ _ _ _ _ from by have := peer_any (h.still hb) q; rw [hq] at this; exact this)
 generalize hW : w.alloc (.cells #[.int .i64 t.e, .int .i64 t.l, .int .i64 t.i, .int .i64 t.c, .int .i64 u, .slice ao n c] 55) = W
 have hbW := bW0 hW
 have hblk := hQ0 hW
 have a0 : W.cell? ⟨w.heap.size, 0, none⟩ = some (.int .i64 t.e) := bC hblk 0
 have a1 : W.cell? ⟨w.heap.size, 1, none⟩ = some (.int .i64 t.l) := bC hblk 1
 have a2 : W.cell? ⟨w.heap.size, 2, none⟩ = some (.int .i64 t.i) := bC hblk 2
 have a3 : W.cell? ⟨w.heap.size, 3, none⟩ = some (.int .i64 t.c) := bC hblk 3
 have a4 : W.cell? ⟨w.heap.size, 4, none⟩ = some (.int .i64 u) := bC hblk 4
 have a5 : W.cell? ⟨w.heap.size, 5, none⟩ = some (.slice ao n c) := bC hblk 5
 have HPW := HP.out W hbW
 have HPh : Hid (Calls _ _ _ _ _) := HPW
 have HBW : Hid (Below w.heap.size w W) := hbW
 have HWi : Hid (Calls Try.prog 66 #[.int .i64 u, .int .i64 1, .int .i64 4611686018427387904] W fun e w' => e = .returned (.bool true) /\ W = w') := (show Calls _ _ _ _ _ from by rw [<- hu]; exact within_any u 1 4611686018427387904)
 have HBd : Hid (Calls Try.prog 69 #[.slice ao n c] W fun e w' => e = .returned (.bool false) /\ W = w') := (show Calls _ _ _ _ _ from by rw [<- hn]; exact body_any)
 clear h hq HPW hblk hbW hu hn
 go_enter Try.func28, Try.ntmps28
 go_wp2_with (first | (go_at_call 60; refine HPh.out.mono ?_; rintro e w' ⟨rfl, rfl⟩) | (go_at_call 66; refine HWi.out.mono ?_; rintro e w' ⟨rfl, rfl⟩) | (go_at_call 69; refine HBd.out.mono ?_; rintro e w' ⟨rfl, rfl⟩) | fail)
 exact bodyPost_ret (v := .tuple #[.slice none 0 0, .int .i64 1]) (by simp [results, Try.results28, go_sem]) rfl ⟨rfl, HBW.out⟩
theorem take_tag (h : M.Ok w B) {q : Int} (hq : M.at q = some E) (t : Tg) (u : Int) {ao : Option Addr} {n c : Nat} (hu : inR 1 4611686018427387904 u = true) (hn : inR 1 300 (n : Int) = true) (ht : ¬ t = M.tag) : Calls Try.prog 28 #[.pointer (some ⟨M.b, 0, none⟩), .int .i64 q, .agg #[.int .i64 t.e, .int .i64 t.l, .int .i64 t.i, .int .i64 t.c, .int .i64 u, .slice ao n c]] w fun e w' => e = .returned (.tuple #[.slice none 0 0, .int .i64 40]) /\ Below w.heap.size w w' := by
 have HP : Hid (∀ w1, Below w.heap.size w w1 -> Calls Try.prog 60 #[.pointer (some ⟨M.b, 0, none⟩), .int .i64 q] w1 fun e w' => e = .returned (.pointer (some ⟨E.b, 0, none⟩)) /\ w1 = w') := fun w1 hb => (show Calls _ _ _ _ _ from by have := peer_any (h.still hb) q; rw [hq] at this; exact this)
 generalize hW : w.alloc (.cells #[.int .i64 t.e, .int .i64 t.l, .int .i64 t.i, .int .i64 t.c, .int .i64 u, .slice ao n c] 55) = W
 have hbW := bW0 hW
 have hblk := hQ0 hW
 have a0 : W.cell? ⟨w.heap.size, 0, none⟩ = some (.int .i64 t.e) := bC hblk 0
 have a1 : W.cell? ⟨w.heap.size, 1, none⟩ = some (.int .i64 t.l) := bC hblk 1
 have a2 : W.cell? ⟨w.heap.size, 2, none⟩ = some (.int .i64 t.i) := bC hblk 2
 have a3 : W.cell? ⟨w.heap.size, 3, none⟩ = some (.int .i64 t.c) := bC hblk 3
 have a4 : W.cell? ⟨w.heap.size, 4, none⟩ = some (.int .i64 u) := bC hblk 4
 have a5 : W.cell? ⟨w.heap.size, 5, none⟩ = some (.slice ao n c) := bC hblk 5
 have HPW := HP.out W hbW
 have HPh : Hid (Calls _ _ _ _ _) := HPW
 have HBW : Hid (Below w.heap.size w W) := hbW
 have HWi : Hid (Calls Try.prog 66 #[.int .i64 u, .int .i64 1, .int .i64 4611686018427387904] W fun e w' => e = .returned (.bool true) /\ W = w') := (show Calls _ _ _ _ _ from by rw [<- hu]; exact within_any u 1 4611686018427387904)
 have HBd : Hid (Calls Try.prog 69 #[.slice ao n c] W fun e w' => e = .returned (.bool true) /\ W = w') := (show Calls _ _ _ _ _ from by rw [<- hn]; exact body_any)
 have m3 : W.cell? ⟨M.b, 3, none⟩ = some (.int .i64 M.tag.e) := (h.still hbW).c 3 rfl
 have m4 : W.cell? ⟨M.b, 4, none⟩ = some (.int .i64 M.tag.l) := (h.still hbW).c 4 rfl
 have m5 : W.cell? ⟨M.b, 5, none⟩ = some (.int .i64 M.tag.i) := (h.still hbW).c 5 rfl
 have m6 : W.cell? ⟨M.b, 6, none⟩ = some (.int .i64 M.tag.c) := (h.still hbW).c 6 rfl
 have HQ : Hid (decide (t = M.tag) = false) := (show _ = _ from by rw [decide_eq_false_iff_not]; exact ht)
 clear h hq HPW hblk hbW hu hn ht
 go_enter Try.func28, Try.ntmps28
 go_wp2_with (first | (go_at_call 60; refine HPh.out.mono ?_; rintro e w' ⟨rfl, rfl⟩) | (go_at_call 66; refine HWi.out.mono ?_; rintro e w' ⟨rfl, rfl⟩) | (go_at_call 69; refine HBd.out.mono ?_; rintro e w' ⟨rfl, rfl⟩) | fail)
 refine wp_region_held_drew (S := (fun w' => w'.cell? ⟨w.heap.size, 0, none⟩ = some (.int .i64 t.e) /\ w'.cell? ⟨w.heap.size, 1, none⟩ = some (.int .i64 t.l) /\ w'.cell? ⟨w.heap.size, 2, none⟩ = some (.int .i64 t.i) /\ w'.cell? ⟨w.heap.size, 3, none⟩ = some (.int .i64 t.c) /\ w'.cell? ⟨M.b, 3, none⟩ = some (.int .i64 M.tag.e) /\ w'.cell? ⟨M.b, 4, none⟩ = some (.int .i64 M.tag.l) /\ w'.cell? ⟨M.b, 5, none⟩ = some (.int .i64 M.tag.i) /\ w'.cell? ⟨M.b, 6, none⟩ = some (.int .i64 M.tag.c))) (by kernel_rfl) ⟨bA (Below.refl _ _).drew a0, bA (Below.refl _ _).drew a1, bA (Below.refl _ _).drew a2, bA (Below.refl _ _).drew a3, bA (Below.refl _ _).drew m3, bA (Below.refl _ _).drew m4, bA (Below.refl _ _).drew m5, bA (Below.refl _ _).drew m6⟩ (fun hH => ?_)
 simp only [Act.put, lA, lC, lN, zA]
 refine wG 0 (.pointer (some ⟨w.heap.size, 0, none⟩)) rfl hH ?_
 simp only [aP, gA, gZ, gC, sA, sZ, sC]
 refine wL 1 (.agg #[.int .i64 t.e, .int .i64 t.l, .int .i64 t.i, .int .i64 t.c]) rfl hH ?_
 simp only [aP, gA, gZ, gC, sA, sZ, sC]
 refine wG 2 (.pointer (some ⟨M.b, 0, none⟩)) rfl hH ?_
 simp only [aP, gA, gZ, gC, sA, sZ, sC]
 refine wG 3 (.pointer (some ⟨M.b, 0, none⟩)) rfl hH ?_
 simp only [aP, gA, gZ, gC, sA, sZ, sC]
 refine wG 4 (.pointer (some ⟨M.b, 3, none⟩)) rfl hH ?_
 simp only [aP, gA, gZ, gC, sA, sZ, sC]
 refine wL 5 (.agg #[.int .i64 M.tag.e, .int .i64 M.tag.l, .int .i64 M.tag.i, .int .i64 M.tag.c]) rfl hH ?_
 simp only [aP, gA, gZ, gC, sA, sZ, sC]
 refine wX 6 (.bool (!(false))) rfl (Or.inl ⟨by rfl, fun w' hS => run_neqop 39 (.tmp 26) (.tmp 30) 39 rfl _ _ (by rfl) (by rfl) guard_id _ (by have e1 := eq_tag (w := w') t M.tag; rw [HQ.out] at e1; exact e1)⟩) hH ?_
 simp only [aP, gA, gZ, gC, sA, sZ, sC]
 refine wpAnyH_done (by kernel_rfl) ?_ _
 clear hH
 go_wp2
 exact bodyPost_ret (v := .tuple #[.slice none 0 0, .int .i64 40]) (by simp [results, Try.results28, go_sem]) rfl ⟨rfl, HBW.out.drew⟩
end
end Go.Proofs.Ythanifbimndhaaa.Ln
