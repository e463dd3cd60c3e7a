/-
  Contracts of ReadList: the program's, over the library's SplitN.
-/
import Derived.Test.YtmknafkngggfjaaGreatDoorReadList
import Derived.Test.YtmknafkngggfjaaGreatDoorReadI
import Derived.ChangeAgain
namespace Go.Proofs.YtmknafkngggfjaaGreatDoor
open Go.ChangeShapes Go.WideShapes Go.ChangeAt Go.RowKit Go.Sort
set_option linter.unusedVariables false
set_option linter.unusedSimpArgs false
theorem shape_below {w w' : World} (h : w.ShapedOpen Tryz.prog) (hb : Below w.heap.size w w') : w'.ShapedOpen Tryz.prog :=
  h.keptBut (hb.frame (fun _ => False)) (fun p hp => hp.elim)
/-- the library's parts: how many, and what they are -/
def cutN (s : ByteArray) : List ByteArray := Lib.splitB ⟨#[44]⟩ 0 (min 65 (s.size + 1) - 1) s
theorem cutN_data (s : ByteArray) : (cutN s).map (·.data.toList) = Lib.splitK [44] 0 (min 65 (s.size + 1) - 1) s.data.toList := Lib.splitB_data _ _ _ _
theorem cutN_long (s : ByteArray) (h : 64 < (splitL 44 s.data.toList).length) : 64 < (cutN s).length := by
  have hl := splitL_len 44 s.data.toList
  rw [len_data] at hl
  have hk : min 65 (s.size + 1) - 1 = 64 := by omega
  have e : (cutN s).length = ((cutN s).map (·.data.toList)).length := by rw [List.length_map]
  rw [e, cutN_data, hk, splitK_long 44 64 _ (by omega)]; omega
theorem cutN_all (s : ByteArray) (h : (splitL 44 s.data.toList).length ≤ 64) : (cutN s).map (·.data.toList) = splitL 44 s.data.toList := by
  have hl := splitL_len 44 s.data.toList
  rw [len_data] at hl
  rw [cutN_data]
  exact splitK_all 44 _ _ (by omega)
theorem cutN_le (s : ByteArray) : (cutN s).length ≤ 65 := by
  have := Lib.splitB_length_le ⟨#[44]⟩ 0 (min 65 (s.size + 1) - 1) s
  unfold cutN; omega
theorem splitN_any (s : ByteArray) (w : World) (hs : s.size ≤ 1048576) (hSh : w.ShapedOpen Tryz.prog) :
    Calls Tryz.prog 51 #[.string s, .string ⟨#[44]⟩, .int .i64 65] w fun e w' => ∃ cap, e = .returned (.slice (some ⟨w.heap.size, 0, none⟩) (cutN s).length cap) ∧ (cutN s).length ≤ cap ∧ Below w.heap.size w w' ∧ w.heap.size < w'.heap.size ∧
      ∀ j (hj : j < (cutN s).length), w'.cell? ⟨w.heap.size, j, none⟩ = some (.string (cutN s)[j]) := by
  refine (Tryz.strings_SplitN_shaped s ⟨#[44]⟩ 65 w hSh (by omega) (by decide) (by omega) (by omega)).mono ?_
  rintro e w' ⟨rfl, rfl⟩
  refine ⟨min 65 (s.size + 1), rfl, ?_, (Below.refl _ _).alloc (Nat.le_refl _) _, by simp, ?_⟩
  · have := Lib.splitB_length_le ⟨#[44]⟩ 0 (min 65 (s.size + 1) - 1) s
    unfold cutN; omega
  · intro j hj
    rw [World.cell?_alloc_mark]
    show (Lib.cellsOf (cutN s) _)[j]? = _
    unfold Lib.cellsOf
    rw [List.getElem?_toArray, List.getElem?_append_left (by rw [List.length_map]; exact hj), List.getElem?_map, List.getElem?_eq_getElem hj]
    rfl
/-- a new row of N numbers, the first of which are laid -/
def fillK (Z : List Int) (N : Nat) : List Value := Z.map encI ++ List.replicate (N - Z.length) (.int .i64 0)
theorem fillK_nil (N : Nat) : fillK [] N = List.replicate N (.int .i64 0) := by simp [fillK]
theorem fillK_len (Z : List Int) (N : Nat) (h : Z.length ≤ N) : (fillK Z N).length = N := by simp [fillK]; omega
theorem fillK_set (Z : List Int) (N : Nat) (n : Int) (h : Z.length < N) : (fillK Z N).set Z.length (.int .i64 n) = fillK (Z ++ [n]) N := by
  unfold fillK
  have e : List.replicate (N - Z.length) (Value.int .i64 0) = Value.int .i64 0 :: List.replicate (N - (Z.length + 1)) (.int .i64 0) := by
    rw [show N - Z.length = (N - (Z.length + 1)) + 1 by omega, List.replicate_succ]
  rw [e, List.set_append_right _ _ (by simp), List.length_map, Nat.sub_self, List.set_cons_zero, List.map_append, List.append_assoc, List.length_append]
  rfl
theorem fillK_all (Z : List Int) : fillK Z Z.length = Z.map encI := by simp [fillK]

end Go.Proofs.YtmknafkngggfjaaGreatDoor
