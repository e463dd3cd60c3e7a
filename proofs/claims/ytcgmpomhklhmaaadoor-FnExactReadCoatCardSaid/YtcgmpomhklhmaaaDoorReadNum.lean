/-
  The program's readNumbers: the list with a text, if it has so many numbers.
-/
import Derived.Test.YtcgmpomhklhmaaaDoorReadListI
import Derived.Test.YtcgmpomhklhmaaaDoorReadList
import Derived.Test.YtcgmpomhklhmaaaDoorMem
namespace Go.Proofs.YtcgmpomhklhmaaaDoor
open Go.ChangeShapes Go.WideShapes Go.ChangeAt Go.RowKit Go.Deep
set_option linter.unusedVariables false
set_option linter.unusedSimpArgs false
set_option maxRecDepth 1000000
def readM (l : List UInt8) (n : Nat) : Option (List Int) :=
  match readL l with
  | some Z => if Z.length = n then some Z else none
  | none => none
theorem readM_none {l : List UInt8} {n : Nat} (h : readL l = none) : readM l n = none := by unfold readM; rw [h]
theorem readM_len {l : List UInt8} {n : Nat} {Z : List Int} (h : readL l = some Z) (hl : Z.length ≠ n) : readM l n = none := by unfold readM; rw [h]; exact if_neg hl
theorem readM_yes {l : List UInt8} {n : Nat} {Z : List Int} (h : readL l = some Z) (hl : Z.length = n) : readM l n = some Z := by unfold readM; rw [h]; exact if_pos hl
theorem readM_some {l : List UInt8} {n : Nat} {Z : List Int} (h : readM l n = some Z) : readL l = some Z ∧ Z.length = n := by
  unfold readM at h
  cases ho : readL l with
  | none => rw [ho] at h; exact absurd h (by simp)
  | some Y =>
    rw [ho] at h
    by_cases hl : Y.length = n
    · rw [show (match some Y with | some Z => if Z.length = n then some Z else none | none => none) = some Y from if_pos hl] at h
      cases h; exact ⟨rfl, hl⟩
    · rw [show (match some Y with | some Z => if Z.length = n then some Z else none | none => none) = none from if_neg hl] at h
      exact absurd h (by simp)
theorem readM_no {l : List UInt8} {n : Nat} (h : readM l n = none) : readL l = none ∨ ∃ Z, readL l = some Z ∧ Z.length ≠ n := by
  cases ho : readL l with
  | none => exact Or.inl rfl
  | some Y =>
    refine Or.inr ⟨Y, rfl, fun hl => ?_⟩
    rw [readM_yes ho hl] at h
    exact absurd h (by simp)
theorem own_shapeM {w : World} {B e size n : Nat} {v : Value} {xs : List Value} (h : w.ownsRow B e size v n xs) : ∃ a cap, v = .slice a n cap := by
  rcases h.2 with ⟨rfl, rfl⟩ | ⟨g, cap, _, rfl, _⟩
  · exact ⟨none, 0, rfl⟩
  · exact ⟨_, cap, rfl⟩
set_option maxHeartbeats 1600000 in
theorem readNumbers_any (s : ByteArray) (n : Nat) (w : World) (hn : n ≤ 1000) (hs : s.size ≤ 1048576) (hT : TabP w) (hE : ErrsAt w) (hSh : w.ShapedOpen Tryd.prog) :
    Calls Tryd.prog 25 #[.string s, .int .i64 n] w (LRet (readM s.data.toList n) w) := by
  have cN0 := implReadList_any s w hs hT hE hSh
  cases ho : readL s.data.toList with
  | none =>
    rw [readM_none ho]
    rw [ho] at cN0
    have cN : Hid (Calls Tryd.prog 26 #[.string s] w fun e w' => e = .returned (.tuple #[.slice none 0 0, .bool false]) ∧ Below w.heap.size w w') := Lib.hid cN0
    clear cN0 ho
    go_enter Tryd.func25, Tryd.ntmps25
    go_wp2_with (go_at_call 26; (with_reducible refine cN.out.mono ?_); rintro e w1 ⟨rfl, b1⟩)
    go_ret2
    exact ⟨rfl, b1⟩
  | some Z =>
    rw [ho] at cN0
    have cN : Hid (Calls Tryd.prog 26 #[.string s] w fun e w' => ∃ a cap, e = .returned (.tuple #[.slice a Z.length cap, .bool true]) ∧ w'.ownsRow w.heap.size 2 1 (.slice a Z.length cap) Z.length (Z.map encI) ∧ Below w.heap.size w w') := Lib.hid (cN0.mono fun e w' h => by
      obtain ⟨v, he, hown, hb⟩ := h
      obtain ⟨a, cap, rfl⟩ := own_shapeM hown
      exact ⟨a, cap, he, hown, hb⟩)
    clear cN0
    by_cases hl : Z.length = n
    · rw [readM_yes ho hl]
      have hq : ((Z.length : Int) == (n : Int)) = true := by simp [hl]
      have hq2 : ((Z.length : Int) != (n : Int)) = false := by simp [bne, hq]
      clear ho hl
      go_enter Tryd.func25, Tryd.ntmps25
      go_wp2_with (go_at_call 26; (with_reducible refine cN.out.mono ?_); rintro e w1 ⟨a, cap, rfl, own1, b1⟩)
      go_ret2
      exact ⟨_, rfl, own1, b1⟩
    · rw [readM_len ho hl]
      have hq : ((Z.length : Int) == (n : Int)) = false := by simpa using (show ¬ (Z.length : Int) = (n : Int) by omega)
      have hq2 : ((Z.length : Int) != (n : Int)) = true := by simp [bne, hq]
      clear ho hl
      go_enter Tryd.func25, Tryd.ntmps25
      go_wp2_with (go_at_call 26; (with_reducible refine cN.out.mono ?_); rintro e w1 ⟨a, cap, rfl, own1, b1⟩)
      go_ret2
      exact ⟨rfl, b1⟩
end Go.Proofs.YtcgmpomhklhmaaaDoor
