import Derived.Test.YtghihdenbdnnjaaLks
namespace Go.Proofs.Ytghihdenbdnnjaa.Ln
open Go.RowKit Mb
set_option linter.unusedVariables false
set_option maxRecDepth 100000
set_option linter.unusedSimpArgs false
structure Px where
  win : Nat
  space : Nat
  E : Nat → Ep
  p : Nat → List (List Int)
  o : Nat → List (List Int)
  f : Nat → List (Nat × List Int)
  a : Nat → List Nat
def fbs (x : Nat × Bn) : Nat × List Int := (x.1, x.2.bs)
def Wr.pu (X : Wr) : Px := ⟨X.win, X.space, fun s => (X.e s).pu, fun s => (X.p s).map Bn.bs, fun s => (X.o s).map Bn.bs, fun s => (X.f s).map fbs, X.a⟩
def numb : Nat → List (List Int) → List (Nat × List Int)
  | _, [] => []
  | n, c :: cs => (n + 1, c) :: numb (n + 1) cs
theorem numb_len : ∀ (cs : List (List Int)) (n : Nat), (numb n cs).length = cs.length
  | [], _ => rfl
  | c :: cs, n => by simp [numb, numb_len cs (n + 1)]
theorem numb_at : ∀ (cs : List (List Int)) (n i : Nat), (numb n cs)[i]? = (cs[i]?).map fun c => (n + i + 1, c)
  | [], n, i => by simp [numb]
  | c :: cs, n, 0 => by simp [numb]
  | c :: cs, n, i + 1 => by simp [numb, numb_at cs (n + 1) i]; congr 1; funext x; congr 1; omega
theorem numb_snoc (cs : List (List Int)) (n : Nat) (c : List Int) : numb n (cs ++ [c]) = numb n cs ++ [(n + cs.length + 1, c)] := by
  apply List.ext_getElem?
  intro i
  rw [numb_at, List.getElem?_append, List.getElem?_append, numb_len]
  by_cases h : i < cs.length
  · rw [if_pos h, if_pos h, numb_at]
  · rw [if_neg h, if_neg h]
    by_cases e : i = cs.length
    · subst e; simp
    · rw [List.getElem?_eq_none (by simp; omega), List.getElem?_eq_none (by simp; omega)]; rfl
def Px.setE (P : Px) (s : Nat) (e : Ep) : Px := { P with E := upd P.E s e }
def Px.push (P : Px) (s : Nat) (bs : List Int) : Px := if (P.E s).sent < (P.E s).op + P.space then { P with E := upd P.E s ((P.E s).push bs), p := upd P.p s (P.p s ++ [bs]) } else P
def Px.shown (P : Px) (s : Nat) : List (List Int) := takeP (P.E s).ob (P.E s).op P.win
def Px.show (P : Px) (s : Nat) : Px := { P with f := upd P.f s (P.f s ++ numb (P.E s).op (P.shown s)) }
def Ep.owe0 (e : Ep) : Ep := { e with owed := false }
def Ep.owe1 (e : Ep) : Ep := { e with owed := true }
def Px.owe (P : Px) (s : Nat) : Px := if (P.E s).owed then { P with E := upd P.E s (P.E s).owe0, a := upd P.a s (P.a s ++ [(P.E s).ip]) } else P
def Px.take (P : Px) (t : Nat) (x : Nat × List Int) : Px := if x.1 ≤ (P.E t).ip ∨ ((P.E t).ib x.1).isSome then { P with E := upd P.E t (P.E t).owe1 } else { P with E := upd P.E t ((P.E t).took x.1 x.2 P.win), o := upd P.o t (P.o t ++ (P.E t).tookO x.1 x.2 P.win) }
def pick (n : Int) (l : Nat) : Nat := (absI n).toNat % l
def Px.carry (P : Px) (s : Nat) (n : Int) : Px := if (P.f s) = [] then P else P.take (1 - s) ((P.f s).getD (pick n (P.f s).length) (0, []))
def Px.answer (P : Px) (s : Nat) (n : Int) : Px := if (P.a s) = [] then P else { P with E := upd P.E (1 - s) ((P.E (1 - s)).acked ((P.a s).getD (pick n (P.a s).length) 0)) }
theorem takeP_len (f : Nat → Option (List Int)) : ∀ (m p : Nat), (takeP f p m).length ≤ m
  | 0, p => by simp [takeP]
  | m + 1, p => by
      simp only [takeP]
      split
      · have := takeP_len f m (p + 1); simp; omega
      · simp
theorem takeP_at (f : Nat → Option (List Int)) : ∀ (m p i : Nat), i < (takeP f p m).length → f (p + i + 1) = (takeP f p m)[i]?
  | 0, p, i, h => by simp [takeP] at h
  | m + 1, p, i, h => by
      cases e : f (p + 1) with
      | none => simp [takeP, e] at h
      | some b =>
        simp only [takeP, e] at h ⊢
        cases i with
        | zero => simpa using e
        | succ i =>
          have := takeP_at f m (p + 1) i (by simpa using h)
          rw [show p + (i + 1) + 1 = p + 1 + i + 1 by omega, this]; simp
theorem takeP_end (f : Nat → Option (List Int)) : ∀ (m p : Nat), (takeP f p m).length = m ∨ f (p + (takeP f p m).length + 1) = none
  | 0, p => by simp [takeP]
  | m + 1, p => by
      cases e : f (p + 1) with
      | none => right; simp [takeP, e]
      | some b =>
        simp only [takeP, e]
        rcases takeP_end f m (p + 1) with h | h
        · left; simp [h]
        · right; rw [show p + (b :: takeP f (p + 1) m).length + 1 = p + 1 + (takeP f (p + 1) m).length + 1 by simp; omega]; exact h
structure Hf (win : Nat) (S R : Ep) (p o : List (List Int)) (f : List (Nat × List Int)) (a : List Nat) : Prop where
  sent : S.sent = p.length
  op : S.op ≤ R.ip
  ob : ∀ n, S.ob n = if S.op < n ∧ n ≤ p.length then p[n - 1]? else none
  got : R.ip = o.length
  pre : o = p.take R.ip
  le : R.ip ≤ p.length
  ib : ∀ n c, R.ib n = some c → R.ip < n ∧ p[n - 1]? = some c ∧ n ≤ S.op + win
  ib1 : R.ib (R.ip + 1) = none
  ipw : R.ip ≤ S.op + win
  fr : ∀ x ∈ f, 1 ≤ x.1 ∧ p[x.1 - 1]? = some x.2 ∧ x.1 ≤ S.op + win
  ak : ∀ u ∈ a, u ≤ R.ip
  len : ∀ x ∈ p, 0 < x.length ∧ x.length ≤ 20 ∧ By x
def Px.Inv (P : Px) : Prop := ∀ s, s < 2 → Hf P.win (P.E s) (P.E (1 - s)) (P.p s) (P.o (1 - s)) (P.f s) (P.a (1 - s))
def Px.Sz (P : Px) (T : Nat) : Prop := ∀ s, s < 2 → (P.p s).length ≤ T ∧ (P.f s).length ≤ 5 * T ∧ (P.a s).length ≤ T
section
variable {win : Nat} {S R S' R' : Ep} {p o : List (List Int)} {f : List (Nat × List Int)} {a : List Nat} {P : Px} {T s : Nat}
theorem Hf.ofR (h : Hf win S R p o f a) (e1 : R'.ip = R.ip) (e2 : R'.ib = R.ib) : Hf win S R' p o f a :=
  ⟨h.sent, by rw [e1]; exact h.op, h.ob, by rw [e1]; exact h.got, by rw [e1]; exact h.pre, by rw [e1]; exact h.le, by rw [e1, e2]; exact h.ib, by rw [e1, e2]; exact h.ib1, by rw [e1]; exact h.ipw, h.fr, by rw [e1]; exact h.ak, h.len⟩
theorem Hf.ofS (h : Hf win S R p o f a) (e1 : S'.sent = S.sent) (e2 : S'.op = S.op) (e3 : S'.ob = S.ob) : Hf win S' R p o f a :=
  ⟨by rw [e1]; exact h.sent, by rw [e2]; exact h.op, by rw [e2, e3]; exact h.ob, h.got, h.pre, h.le, by rw [e2]; exact h.ib, h.ib1, by rw [e2]; exact h.ipw, by rw [e2]; exact h.fr, h.ak, h.len⟩
theorem Hf.shown_len (h : Hf win S R p o f a) : (takeP S.ob S.op win).length = min win (S.sent - S.op) := by
  have h1 := takeP_len S.ob win S.op
  have h2 := takeP_end S.ob win S.op
  have h3 := takeP_at S.ob win S.op
  have h4 := h.sent
  have h5 := h.op
  have h6 := h.le
  generalize takeP S.ob S.op win = l at *
  have hle : l.length ≤ S.sent - S.op := by
    rcases Nat.eq_zero_or_pos l.length with e | e
    · omega
    · have := h3 (l.length - 1) (by omega)
      have e2 : l[l.length - 1]? = some l[l.length - 1] := List.getElem?_eq_getElem (by omega)
      rw [h.ob, e2] at this
      by_cases c : S.op < S.op + (l.length - 1) + 1 ∧ S.op + (l.length - 1) + 1 ≤ p.length
      · omega
      · rw [if_neg c] at this; cases this
  rcases h2 with e | e
  · omega
  · rw [h.ob] at e
    by_cases c : S.op < S.op + l.length + 1 ∧ S.op + l.length + 1 ≤ p.length
    · rw [if_pos c, List.getElem?_eq_getElem (by omega)] at e; cases e
    · omega
theorem Hf.shown_at (h : Hf win S R p o f a) {i : Nat} (hi : i < (takeP S.ob S.op win).length) : (takeP S.ob S.op win)[i]? = p[S.op + i]? := by
  have h3 := takeP_at S.ob win S.op i hi
  rw [← h3, h.ob]
  have hl := h.shown_len
  have h4 := h.sent
  rw [if_pos (by omega)]
  rfl
theorem Hf.push (h : Hf win S R p o f a) {bs : List Int} (h1 : 0 < bs.length) (h2 : bs.length ≤ 20) (h3 : By bs) : Hf win (S.push bs) R (p ++ [bs]) o f a := by
  have hap : ∀ n, n < p.length → (p ++ [bs])[n]? = p[n]? := fun n hn => List.getElem?_append_left hn
  have hso : ∀ {n : Nat} {c : List Int}, p[n]? = some c → (p ++ [bs])[n]? = some c := fun {n c} e => by
    have := (List.getElem?_eq_some_iff.1 e).1
    rw [hap n this]; exact e
  refine ⟨by simp [Ep.push, h.sent], h.op, fun n => ?_, h.got, ?_, by simp; have := h.le; omega, fun n c hc => ⟨(h.ib n c hc).1, hso (h.ib n c hc).2.1, (h.ib n c hc).2.2⟩, h.ib1, h.ipw, fun x hx => ⟨(h.fr x hx).1, hso (h.fr x hx).2.1, (h.fr x hx).2.2⟩, h.ak, fun x hx => ?_⟩
  · have hs := h.sent
    have ho := h.op
    have hl := h.le
    show upd S.ob (S.sent + 1) (some bs) n = if S.op < n ∧ n ≤ (p ++ [bs]).length then (p ++ [bs])[n - 1]? else none
    by_cases e : n = S.sent + 1
    · subst e
      rw [upd_same, if_pos (by simp; omega), hs]
      simp
    · rw [upd_ne _ _ e, h.ob]
      by_cases c : S.op < n ∧ n ≤ p.length
      · rw [if_pos c, if_pos (by simp; omega), hap _ (by omega)]
      · rw [if_neg c, if_neg (by simp; omega)]
  · rw [List.take_append_of_le_length h.le]; exact h.pre
  · rcases List.mem_append.1 hx with hx | hx
    · exact h.len x hx
    · simp at hx; subst hx; exact ⟨h1, h2, h3⟩
theorem Hf.show (h : Hf win S R p o f a) : Hf win S R p o (f ++ numb S.op (takeP S.ob S.op win)) a := by
  refine { h with fr := fun x hx => ?_ }
  rcases List.mem_append.1 hx with hx | hx
  · exact h.fr x hx
  · obtain ⟨i, hi, rfl⟩ := List.mem_iff_getElem.1 hx
    have hl := numb_len (takeP S.ob S.op win) S.op
    have e := numb_at (takeP S.ob S.op win) S.op i
    rw [hl] at hi
    rw [List.getElem?_eq_getElem (by omega), List.getElem?_eq_getElem (by omega)] at e
    simp only [Option.map_some, Option.some.injEq] at e
    have e2 := h.shown_at hi
    rw [List.getElem?_eq_getElem (by omega)] at e2
    rw [e]
    have hw := takeP_len S.ob win S.op
    exact ⟨by show 1 ≤ S.op + i + 1; omega, by show p[S.op + i + 1 - 1]? = _; exact e2.symm, by show S.op + i + 1 ≤ S.op + win; omega⟩
theorem Hf.owe (h : Hf win S R p o f a) : Hf win S R.owe0 p o f (a ++ [R.ip]) := by
  refine { h.ofR (R' := R.owe0) rfl rfl with ak := fun u hu => ?_ }
  rcases List.mem_append.1 hu with hu | hu
  · exact h.ak u hu
  · simp at hu; subst hu; exact Nat.le_refl _
theorem Hf.tookO (h : Hf win S R p o f a) {n : Nat} {c : List Int} (hx : p[n - 1]? = some c) (hn : 1 ≤ n) : ∀ i, i < (R.tookO n c win).length → (R.tookO n c win)[i]? = p[R.ip + i]? := fun i hi => by
  have h1 := takeP_at (upd R.ib n (some c)) win R.ip i hi
  unfold Ep.tookO at hi ⊢
  rw [← h1]
  by_cases e : R.ip + i + 1 = n
  · subst e; rw [upd_same, ← hx]; rfl
  · rw [upd_ne _ _ e]
    rw [upd_ne _ _ e, List.getElem?_eq_getElem hi] at h1
    have := (h.ib _ _ h1).2.1
    rw [h1]
    exact this.symm
theorem Hf.took (h : Hf win S R p o f a) {n : Nat} {c : List Int} (hx : p[n - 1]? = some c) (hn : 1 ≤ n) (hnw : n ≤ S.op + win) (hip : R.ip < n) (hno : R.ib n = none) : Hf win S (R.took n c win) p (o ++ R.tookO n c win) f a := by
  have hat := h.tookO hx hn
  have hg := h.got
  have hlen : R.ip + (R.tookO n c win).length ≤ p.length := by
    rcases Nat.eq_zero_or_pos (R.tookO n c win).length with e | e
    · have := h.le; omega
    · have := hat ((R.tookO n c win).length - 1) (by omega)
      rw [List.getElem?_eq_getElem (by omega)] at this
      have := (List.getElem?_eq_some_iff.1 this.symm).1
      omega
  have hw : R.ip + (R.tookO n c win).length ≤ S.op + win := by
    rcases Nat.eq_zero_or_pos (R.tookO n c win).length with e | e
    · have := h.ipw; omega
    · have h1 : upd R.ib n (some c) (R.ip + ((R.tookO n c win).length - 1) + 1) = (R.tookO n c win)[(R.tookO n c win).length - 1]? := takeP_at (upd R.ib n (some c)) win R.ip ((R.tookO n c win).length - 1) (show _ < (R.tookO n c win).length by omega)
      rw [List.getElem?_eq_getElem (by omega)] at h1
      by_cases e2 : R.ip + ((R.tookO n c win).length - 1) + 1 = n
      · omega
      · rw [upd_ne _ _ e2] at h1
        have := (h.ib _ _ h1).2.2
        omega
  have hpre : o ++ R.tookO n c win = p.take (R.ip + (R.tookO n c win).length) := by
    apply List.ext_getElem?
    intro i
    rw [List.getElem?_append, List.getElem?_take]
    by_cases c1 : i < o.length
    · rw [if_pos c1, if_pos (by omega), h.pre, List.getElem?_take, if_pos (by omega)]
    · rw [if_neg c1]
      by_cases c2 : i < R.ip + (R.tookO n c win).length
      · rw [if_pos c2, hat (i - o.length) (by omega)]; congr 1; omega
      · rw [if_neg c2, List.getElem?_eq_none (by omega)]
  have hib : ∀ m d, (R.took n c win).ib m = some d → R.ip + (R.tookO n c win).length < m ∧ upd R.ib n (some c) m = some d := fun m d hd => by
    have hd' : (if m ≤ R.ip + (R.tookO n c win).length then none else upd R.ib n (some c) m) = some d := hd
    by_cases e : m ≤ R.ip + (R.tookO n c win).length
    · rw [if_pos e] at hd'; cases hd'
    · rw [if_neg e] at hd'; exact ⟨by omega, hd'⟩
  refine ⟨h.sent, by show S.op ≤ R.ip + _; have := h.op; omega, h.ob, by show R.ip + _ = _; rw [List.length_append]; omega, hpre, hlen, fun m d hd => ?_, ?_, hw, h.fr, fun u hu => by show u ≤ R.ip + _; have := h.ak u hu; omega, h.len⟩
  · obtain ⟨h1, h2⟩ := hib m d hd
    refine ⟨h1, ?_⟩
    by_cases e : m = n
    · subst e; rw [upd_same, Option.some.injEq] at h2; subst h2; exact ⟨hx, hnw⟩
    · rw [upd_ne _ _ e] at h2; exact (h.ib m d h2).2
  · show (if R.ip + (R.tookO n c win).length + 1 ≤ R.ip + (R.tookO n c win).length then none else upd R.ib n (some c) (R.ip + (R.tookO n c win).length + 1)) = none
    rw [if_neg (by omega)]
    rcases takeP_end (upd R.ib n (some c)) win R.ip with e | e
    · have e' : (R.tookO n c win).length = win := e
      cases e2 : upd R.ib n (some c) (R.ip + (R.tookO n c win).length + 1) with
      | none => rfl
      | some d =>
        have ho := h.op
        by_cases e3 : R.ip + (R.tookO n c win).length + 1 = n
        · omega
        · rw [upd_ne _ _ e3] at e2
          have := (h.ib _ _ e2).2.2
          omega
    · exact e
theorem Hf.acked (h : Hf win S R p o f a) {u : Nat} (hu : u ≤ R.ip) : Hf win (S.acked u) R p o f a := by
  have ho := h.op
  refine ⟨h.sent, by show max S.op u ≤ R.ip; omega, fun n => ?_, h.got, h.pre, h.le, fun n c hc => ⟨(h.ib n c hc).1, (h.ib n c hc).2.1, by have := (h.ib n c hc).2.2; show n ≤ max S.op u + win; omega⟩, h.ib1, by have := h.ipw; show R.ip ≤ max S.op u + win; omega, fun x hx => ⟨(h.fr x hx).1, (h.fr x hx).2.1, by have := (h.fr x hx).2.2; show x.1 ≤ max S.op u + win; omega⟩, h.ak, h.len⟩
  show (if n ≤ u then none else S.ob n) = if max S.op u < n ∧ n ≤ p.length then p[n - 1]? else none
  rw [h.ob]
  by_cases e : n ≤ u
  · rw [if_pos e, if_neg (by omega)]
  · rw [if_neg e]
    by_cases c : S.op < n ∧ n ≤ p.length
    · rw [if_pos c, if_pos (by omega)]
    · rw [if_neg c, if_neg (by omega)]
theorem s2 (hs : s < 2) : s = 0 ∨ s = 1 := by omega
theorem Px.Inv.of (h0 : Hf P.win (P.E 0) (P.E 1) (P.p 0) (P.o 1) (P.f 0) (P.a 1)) (h1 : Hf P.win (P.E 1) (P.E 0) (P.p 1) (P.o 0) (P.f 1) (P.a 0)) : P.Inv := fun s hs => by
  rcases s2 hs with rfl | rfl
  · exact h0
  · exact h1
theorem Px.Inv.push (h : P.Inv) (hs : s < 2) {bs : List Int} (h1 : 0 < bs.length) (h2 : bs.length ≤ 20) (h3 : By bs) : (P.push s bs).Inv := by
  have a0 := h 0 (by omega)
  have a1 := h 1 (by omega)
  unfold Px.push
  split
  · rcases s2 hs with rfl | rfl
    · exact Px.Inv.of (a0.push h1 h2 h3) (a1.ofR rfl rfl)
    · exact Px.Inv.of (a0.ofR rfl rfl) (a1.push h1 h2 h3)
  · exact h
theorem Px.Inv.show (h : P.Inv) (hs : s < 2) : (P.show s).Inv := by
  have a0 := h 0 (by omega)
  have a1 := h 1 (by omega)
  unfold Px.show
  rcases s2 hs with rfl | rfl
  · exact Px.Inv.of a0.show a1
  · exact Px.Inv.of a0 a1.show
theorem Px.Inv.owe (h : P.Inv) (hs : s < 2) : (P.owe s).Inv := by
  have a0 := h 0 (by omega)
  have a1 := h 1 (by omega)
  unfold Px.owe
  split
  · rcases s2 hs with rfl | rfl
    · exact Px.Inv.of (a0.ofS rfl rfl rfl) a1.owe
    · exact Px.Inv.of a0.owe (a1.ofS rfl rfl rfl)
  · exact h
theorem pick_lt (n : Int) {l : Nat} (hl : 0 < l) : pick n l < l := Nat.mod_lt _ hl
theorem getD_mem {α : Type} {l : List α} {i : Nat} {d : α} (h : i < l.length) : l.getD i d ∈ l := by simp [List.getD, h]
theorem Px.Inv.take (h : P.Inv) (hs : s < 2) {x : Nat × List Int} (hx : x ∈ P.f s) : (P.take (1 - s) x).Inv := by
  have a0 := h 0 (by omega)
  have a1 := h 1 (by omega)
  unfold Px.take
  split
  · rcases s2 hs with rfl | rfl
    · exact Px.Inv.of (a0.ofR rfl rfl) (a1.ofS rfl rfl rfl)
    · exact Px.Inv.of (a0.ofS rfl rfl rfl) (a1.ofR rfl rfl)
  · rename_i hn
    have hn1 : ¬ x.1 ≤ (P.E (1 - s)).ip := fun e => hn (.inl e)
    have hn2 : (P.E (1 - s)).ib x.1 = none := by
      cases e : (P.E (1 - s)).ib x.1 with
      | none => rfl
      | some d => exact (hn (.inr (by rw [e]; rfl))).elim
    rcases s2 hs with rfl | rfl
    · have fr := a0.fr x hx
      exact Px.Inv.of (a0.took fr.2.1 fr.1 fr.2.2 (by have : ¬ x.1 ≤ (P.E 1).ip := hn1; omega) hn2) (a1.ofS rfl rfl rfl)
    · have fr := a1.fr x hx
      exact Px.Inv.of (a0.ofS rfl rfl rfl) (a1.took fr.2.1 fr.1 fr.2.2 (by have : ¬ x.1 ≤ (P.E 0).ip := hn1; omega) hn2)
theorem Px.Inv.carry (h : P.Inv) (hs : s < 2) (n : Int) : (P.carry s n).Inv := by
  unfold Px.carry
  split
  · exact h
  · rename_i hf
    have hl : 0 < (P.f s).length := List.length_pos_iff.2 hf
    exact h.take hs (getD_mem (pick_lt n hl))
theorem Px.Inv.answer (h : P.Inv) (hs : s < 2) (n : Int) : (P.answer s n).Inv := by
  have a0 := h 0 (by omega)
  have a1 := h 1 (by omega)
  unfold Px.answer
  split
  · exact h
  · rename_i hf
    have hl : 0 < (P.a s).length := List.length_pos_iff.2 hf
    have hm : (P.a s).getD (pick n (P.a s).length) 0 ∈ P.a s := getD_mem (pick_lt n hl)
    rcases s2 hs with rfl | rfl
    · exact Px.Inv.of (a0.ofR rfl rfl) (a1.acked (a1.ak _ hm))
    · exact Px.Inv.of (a0.acked (a0.ak _ hm)) (a1.ofR rfl rfl)
end
end Go.Proofs.Ytghihdenbdnnjaa.Ln
