/-
  The contract of the program's SplitWords.
-/
import Derived.Test.YtpjdlfhbeelicaaSplit
import Derived.Test.YtpjdlfhbeelicaaWordsMath
import Derived.Test.YtpjdlfhbeelicaaShelf
namespace Go.Proofs.Ytpjdlfhbeelicaa
open Go.ChangeShapes Go.WideShapes Go.ChangeAt Go.RowKit
set_option linter.unusedVariables false
set_option linter.unusedSimpArgs false

theorem blank_pays (w : World) : PredAtRunes Try.prog 35 #[] (fun r => r == 32) w := by
  intro W x hx hb
  unfold FnGives
  by_cases h : x = 32
  · subst h
    go_enter Try.func35, Try.ntmps35
    go_wp2
    go_ret
    exact ⟨rfl, 0, rfl⟩
  · have h1 : ((x : Int) == 32) = false := by rw [beq_eq_false_iff_ne]; omega
    have h2 : Hid ((x == 32) = false) := Lib.hid (by rw [beq_eq_false_iff_ne]; exact h)
    clear h
    go_enter Try.func35, Try.ntmps35
    go_wp2
    go_ret
    exact ⟨ret_bool h2.out.symm, 0, rfl⟩

theorem implSplitWords_any (s : ByteArray) (w : World) (hs : s.size ≤ 1048576) :
    Calls Try.prog 15 #[.string s] w (RowRet (wordsL s.data.toList) w) := by
  have hc0 := Try.strings_FieldsFunc_runes 35 #[] (enters_of Try.func35 (by kernel_rfl) rfl) (fun r => r == 32) s w (by omega) (blank_pays w)
  have hl : Hid (Lib.goFieldsP (fun r => r == 32) s = (wordsL s.data.toList).map fun l => (⟨l.toArray⟩ : ByteArray)) := Lib.hid (goFields_words s)
  go_enter Try.func15, Try.ntmps15
  go_wp2_with (go_at_call 34; refine hc0.mono ?_; rintro e w1 ⟨A, rfl, hA, hown, hbel⟩)
  go_ret
  have e1 : (Lib.goFieldsP (fun r => r == 32) s).length = (wordsL s.data.toList).length := by rw [hl.out, List.length_map]
  have e2 : (Lib.goFieldsP (fun r => r == 32) s).map Value.string = (wordsL s.data.toList).map encS := by rw [hl.out, List.map_map]; rfl
  rw [e1, e2] at hown
  exact ⟨_, by rw [e1]; rfl, hown, hbel⟩
end Go.Proofs.Ytpjdlfhbeelicaa
