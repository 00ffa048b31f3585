import Derived.Test.YtfodkackfahldaaBpm
import Derived.Test.YtfodkackfahldaaBqb
namespace Go.Proofs.Ytfodkackfahldaa.Lo
open Go.RowKit
set_option linter.unusedVariables false
set_option linter.unusedSimpArgs false

structure Em where
  k : Int
  a : Int
  b : Int
  n : Int
  ba : Option Addr
  bn : Nat
  bc : Nat
  bs : List Int
  c5 : Int
  c6 : Int
  c7 : Int
  c8 : Int
  s9 : ByteArray
  s10 : ByteArray
  s11 : ByteArray
  sa : Option Addr
  sn : Nat
  sc : Nat
  xs : List Int
def Em.v4 (e : Em) : Value := .slice e.ba e.bn e.bc
def Em.v5 (e : Em) : Value := .int .i64 e.c5
def Em.v6 (e : Em) : Value := .int .i64 e.c6
def Em.v7 (e : Em) : Value := .int .i64 e.c7
def Em.v8 (e : Em) : Value := .int .i64 e.c8
def Em.v9 (e : Em) : Value := .string e.s9
def Em.v10 (e : Em) : Value := .string e.s10
def Em.v11 (e : Em) : Value := .string e.s11
def Em.cs (e : Em) : List Value := [.int .i64 e.k, .int .i64 e.a, .int .i64 e.b, .int .i64 e.n, e.v4, e.v5, e.v6, e.v7, e.v8, e.v9, e.v10, e.v11, .slice e.sa e.sn e.sc]
def haE (f : Nat → Int) (N : Nat) (e : Em) : Nat → Int :=
  if k4 e.k then haS f e.k e.a e.n else if k3 e.k then haP f e.k e.a e.b e.n else if e.k = 11 then haL f N e.xs else f
theorem happen_any (b B : Nat) (f : Nat → Int) (N : Nat) (e : Em) (w : World) (h : Nb w b f) (hB : B ≤ b) (hN : f 0 = (N : Int)) (n1 : 1 ≤ N) (n2 : N ≤ 16) (hP : ∀ j, 17 ≤ j → j < 273 → -16 ≤ f j ∧ f j ≤ 16) (hs : Sd w B e.sa e.sn e.sc e.xs) (hsn : e.sn ≤ 140737488355328) : Calls Try.prog 25 #[.pointer (some ⟨b, 0, none⟩), .agg #[.int .i64 e.k, .int .i64 e.a, .int .i64 e.b, .int .i64 e.n, e.v4, e.v5, e.v6, e.v7, e.v8, e.v9, e.v10, e.v11, .slice e.sa e.sn e.sc]] w fun r w' => r = .returned (.tuple #[]) ∧ Nb w' b (haE f N e) ∧ Below B w w' := by
  unfold haE
  by_cases h4 : k4 e.k
  · rw [if_pos h4]
    exact happen_st b B f e.k e.a e.b e.n _ _ _ _ _ _ _ _ _ w h hB (by omega) h4
  · rw [if_neg h4]
    by_cases h3 : k3 e.k
    · rw [if_pos h3]
      exact happen_pa b B f e.k e.a e.b e.n _ _ _ _ _ _ _ _ _ w h hB (by omega) hP h3
    · rw [if_neg h3]
      by_cases h1 : e.k = 11
      · rw [if_pos h1, h1]
        exact happen_sp b B f N e.a e.b e.n _ _ _ _ _ _ _ _ e.sa e.sn e.sc e.xs w h hB hN n1 n2 hP hs hsn
      · rw [if_neg h1]
        have hlt := h.lt
        exact (happen_no b e.k _ _ _ _ _ _ _ _ _ _ _ _ w h4 h3 h1).mono fun r w' hr => ⟨hr.1, h.on hr.2, hr.2.mono (by omega)⟩

structure Iv (N : Nat) (f : Nat → Int) : Prop where
  n : f 0 = (N : Int)
  p : ∀ j, 17 ≤ j → j < 273 → -16 ≤ f j ∧ f j ≤ 16
theorem paB_rng {p kd n : Int} (h : -16 ≤ p ∧ p ≤ 16) : -16 ≤ paB p kd n ∧ paB p kd n ≤ 16 := by
  unfold paB
  split
  · omega
  · split
    · omega
    · split
      · exact h
      · split <;> omega
theorem Iv.up {N : Nat} {f : Nat → Int} (h : Iv N f) {i : Nat} {v : Int} (h0 : i ≠ 0) (hv : 17 ≤ i → i < 273 → -16 ≤ v ∧ v ≤ 16) : Iv N (upF f i v) := by
  refine ⟨by rw [upF_ne f v (by omega)]; exact h.n, fun j h1 h2 => ?_⟩
  by_cases e : j = i
  · subst e
    rw [upF_at]
    exact hv h1 h2
  · rw [upF_ne f v e]
    exact h.p j h1 h2
theorem inR_iff {v lo hi : Int} : inR v lo hi = true ↔ lo ≤ v ∧ v ≤ hi := by simp [inR]
theorem Iv.ha {N : Nat} {f : Nat → Int} (h : Iv N f) (n2 : N ≤ 16) (e : Em) : Iv N (haE f N e) := by
  unfold haE
  split
  · unfold haS
    split
    · rename_i h1
      rw [inR_iff, h.n] at h1
      exact h.up (by omega) (fun _ _ => by omega)
    · exact h
  · split
    · unfold haP
      split
      · rename_i h1
        simp only [Bool.and_eq_true, inR_iff, h.n] at h1
        exact h.up (by omega) (fun a1 a2 => paB_rng (h.p _ a1 a2))
      · exact h
    · split
      · unfold haL
        split
        · refine ⟨by rw [spG_0]; exact h.n, fun j a1 a2 => ?_⟩
          unfold spG
          split
          · exact paB_rng (h.p j a1 a2)
          · exact h.p j a1 a2
        · exact h
      · exact h
theorem Iv.lo {N : Nat} {f : Nat → Int} (h : Iv N f) (t : Int) : Iv N (loF f N t) := by
  unfold loF
  split
  · simp only []
    split
    · exact ((h.up (by omega) (fun _ _ => by omega)).up (by omega) (fun _ _ => by omega)).up (by omega) (fun _ _ => by omega)
    · exact h.up (by omega) (fun _ _ => by omega)
  · exact h.up (by omega) (fun _ _ => by omega)
def diF (f : Nat → Int) (e : Em) : Nat → Int := if diB f e.k e.a then upF f 290 (-1) else f
theorem Iv.di {N : Nat} {f : Nat → Int} (h : Iv N f) (e : Em) : Iv N (diF f e) := by
  unfold diF
  split
  · exact h.up (by omega) (fun _ _ => by omega)
  · exact h
def stF (N : Nat) (f : Nat → Int) (e : Em) (t : Int) : Nat → Int := loF (haE (diF f e) N e) N t
theorem Iv.st {N : Nat} {f : Nat → Int} (h : Iv N f) (n2 : N ≤ 16) (e : Em) (t : Int) : Iv N (stF N f e t) := ((h.di e).ha n2 e).lo t
def em0 : Em := ⟨0, 0, 0, 0, none, 0, 0, [], 0, 0, 0, 0, ⟨#[]⟩, ⟨#[]⟩, ⟨#[]⟩, none, 0, 0, []⟩
def prK (N : Nat) (f0 : Nat → Int) (es : List Em) : Nat → Nat → Int
  | 0 => loF f0 N 0
  | j + 1 => stF N (prK N f0 es j) (es.getD j em0) ((j : Int) + 1)
theorem Iv.pr {N : Nat} {f : Nat → Int} (h : Iv N f) (n2 : N ≤ 16) (es : List Em) : ∀ j, Iv N (prK N f es j)
  | 0 => h.lo 0
  | j + 1 => (Iv.pr h n2 es j).st n2 _ _
def inF (f : Nat → Int) (l : List Int) : Nat → Int := l.foldl (fun g p => upF g (273 + p.toNat) 1) f
theorem inF_take (f : Nat → Int) {l : List Int} {j : Nat} (h : j < l.length) : inF f (l.take (j + 1)) = upF (inF f (l.take j)) (273 + (l.getD j 0).toNat) 1 := by
  unfold inF
  rw [List.take_add_one, List.foldl_append]
  simp [List.getElem?_eq_getElem h, List.getD]
def wtF (N : Nat) (ba : Int) : Nat → Int := fun i => if i < 273 then nwF N i else if i = 289 then ba else if i = 290 then -1 else 0
theorem Iv.wt (N : Nat) (ba : Int) : Iv N (wtF N ba) := by
  refine ⟨rfl, fun j h1 h2 => ?_⟩
  unfold wtF nwF nwG
  rw [if_pos h2, if_neg (by omega), if_neg (by omega)]
  split <;> omega
theorem Iv.inF {N : Nat} : ∀ (l : List Int) {f : Nat → Int}, Iv N f → (∀ p ∈ l, 0 ≤ p) → Iv N (inF f l)
  | [], f, h, _ => h
  | p :: l, f, h, hp => Iv.inF l (h.up (i := 273 + p.toNat) (v := 1) (by omega) (fun _ _ => by omega)) (fun q hq => hp q (List.mem_cons_of_mem _ hq))
theorem bWt (f : Nat → Int) (ba : Int) : Try.prog.built 59 [(0, .agg (Mb.ints (rl 273 f)).toArray), (2, .int .i64 ba), (3, .int .i64 (-1))] = some (Mb.ints (rl 292 (fun i => if i < 273 then f i else if i = 289 then ba else if i = 290 then -1 else 0))).toArray := by kernel_rfl
theorem Nb.of {w : World} {b : Nat} {f : Nat → Int} (h : w.heap[b]? = some (.cells (Mb.ints (rl 292 f)).toArray 59 (0, 0))) : Nb w b f :=
  ⟨_, h, by simp [Mb.ints, rl], fun i hi => by simp [Mb.ints, rl, hi]⟩
theorem setB_mem : ∀ (l : List Int) {m lo : Int}, 0 ≤ lo → setB m lo l = true → ∀ p ∈ l, 0 ≤ p ∧ p < m := by
  intro l
  induction l with
  | nil => intro m lo _ _ p hp; cases hp
  | cons x l ih =>
    intro m lo h0 h p hp
    unfold setB at h
    simp only [Bool.and_eq_true, inR_iff] at h
    rcases List.mem_cons.1 hp with rfl | hp
    · omega
    · exact ih (by omega) h.2 p hp
end Go.Proofs.Ytfodkackfahldaa.Lo
