import Derived.Test.YtpgckdbjedepcaaDoorMhc
import Derived.Test.YtpgckdbjedepcaaDoorMhl
namespace Go.Proofs.YtpgckdbjedepcaaDoor.Mh
open Go.RowKit Mb Go.Maps
set_option linter.unusedVariables false
set_option maxRecDepth 100000
set_option linter.unusedSimpArgs false
section
variable {w w' W : World} {B : Nat}
theorem slclone_any (s : ByteArray) (h : s.size ≤ 8) : Calls Tryd.prog 33 #[.string s] w fun e w' => e = .returned (.string s) ∧ Below w.heap.size w w' := Go.Proofs.AnyPu.stringslite_Clone Tryd.cloneL s w (by omega)
theorem clone_any (s : ByteArray) (h : s.size ≤ 8) : Calls Tryd.prog 14 #[.string s] w fun e w' => e = .returned (.string s) ∧ Below w.heap.size w w' := by
  have H := slclone_any (w := w) s h
  go_enter Tryd.func14, Tryd.ntmps14
  go_wp2_with (fail)
  refine H.mono ?_
  rintro e w1 ⟨rfl, hb⟩
  go_wp2
  go_ret
  exact ⟨rfl, hb⟩
theorem telling_any (c : Int) (s : ByteArray) : Calls Tryd.prog 36 #[.int .i64 c, .string s] w fun e w' => e = .returned (.agg #[.int .i64 c, .string s, .int .i64 1]) ∧ Below w.heap.size w w' := by
  go_enter Tryd.func36, Tryd.ntmps36
  go_wp2
  (try simp only [Exit.inBlock, Exit.then])
  refine bodyPost_ret (v := .agg #[.int .i64 c, .string s, .int .i64 1]) (by simp [results, Tryd.results36, go_sem]) rfl ⟨rfl, ?_⟩
  exact balloc (Below.refl _ _)
theorem isFull_no {mb pb n : Nat} (h0 : w.cell? ⟨mb, 0, none⟩ = some (.map (some pb))) (hm : w.ownsMap Tryd.prog 9 prE pb n (.map [])) : Calls Tryd.prog 34 #[.pointer (some ⟨mb, 0, none⟩)] w fun e w' => e = .returned (.bool false) ∧ w = w' := by
  go_enter Tryd.func34, Tryd.ntmps34
  go_wp2_with (first | (at_len; go_loud (refine wpList_len_own _ rfl _ 34 rfl 9 45 Tryd.underlying34 prE pb n _ rfl hm ?_)) | fail)
  go_ret
  exact ⟨rfl, rfl⟩
theorem put_any {mb pb n : Nat} {D : DataW Unit} (h0 : w.cell? ⟨mb, 0, none⟩ = some (.map (some pb))) (hm : w.ownsMap Tryd.prog 9 prE pb n D) (hn : n ≤ 1000) (s : ByteArray) : Calls Tryd.prog 35 #[.pointer (some ⟨mb, 0, none⟩), .string lead, .string s] w fun e w' => e = .returned (.tuple #[]) ∧ w'.ownsMap Tryd.prog 9 prE pb (n + 1) (D.put kl (dv lead s)) ∧ w.grownBy w' (some pb) := by
  go_enter Tryd.func35, Tryd.ntmps35
  go_wp2_with (first | (at_mapUpdate; refine wpList_mapUpdate_own _ rfl _ _ _ 34 rfl 9 45 law Tryd.underlying34 prE pb n D rfl hm (by unfold maxLen; omega) _ _ kl rfl rfl key_lead _ [] (prE_mk _ _) ?_) | fail)
  intro w1 h1 h2
  go_wp2
  (try simp only [Exit.inBlock, Exit.then])
  exact bodyPost_end (results_none Tryd.results35 _ _ _) rfl ⟨rfl, h1, h2⟩
end
end Go.Proofs.YtpgckdbjedepcaaDoor.Mh
