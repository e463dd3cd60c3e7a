/-
  Contracts of planks by value: the law's copies, validity, densities.
-/
import Derived.Test.YtfcdhjbnlokinaaDoorUnits
import Derived.Test.YtfcdhjbnlokinaaDoorName
import Derived.OneCell
import Derived.Deep.Fields
import Derived.Deep.Slices
import Derived.ChangeSame
namespace Go.Proofs.YtfcdhjbnlokinaaDoor
open Go.ChangeShapes Go.WideShapes Go.ChangeAt Go.RowKit Go.Deep
set_option linter.unusedVariables false
set_option linter.unusedSimpArgs false
/-- a plank -/
structure Plk where
  id : ByteArray
  len : Int
  wid : Int
  thk : Int
  mas : Int
  rin : Int
def plkB (x : Plk) : Bool := nameL x.id.data.toList && inB x.len 1 2000 && inB x.wid 1 2000 && inB x.thk 1 2000 && inB x.mas 1 100000 && inB x.rin 1 500
theorem cellB {w : World} {b : Nat} {cs : Array Value} {t : TypeId} (h : w.heap[b]? = some (.cells cs t (0, 0))) (i : Nat) (v : Value) (hv : cs[i]? = some v) : w.cell? ⟨b, i, none⟩ = some v := by rw [cell_of_row w b i cs t (0, 0) h, hv]
theorem freeB {w : World} {b : Nat} {cs : Array Value} {t : TypeId} (h : w.heap[b]? = some (.cells cs t (0, 0))) (i : Nat) : w.frozen? ⟨b, i, none⟩ = false := by simp [World.frozen?, h]
/-- a plank lies at a place -/
def PlkAt (w : World) (g o : Nat) (x : Plk) : Prop := w.cell? ⟨g, o, none⟩ = some (.string x.id) ∧ w.cell? ⟨g, o + 1, none⟩ = some (.int .i64 x.len) ∧ w.cell? ⟨g, o + 2, none⟩ = some (.int .i64 x.wid) ∧ w.cell? ⟨g, o + 3, none⟩ = some (.int .i64 x.thk) ∧ w.cell? ⟨g, o + 4, none⟩ = some (.int .i64 x.mas) ∧ w.cell? ⟨g, o + 5, none⟩ = some (.int .i64 x.rin)
theorem PlkAt.below {w w' : World} {g o : Nat} {x : Plk} (h : PlkAt w g o x) (hg : g < w.heap.size) (hb : Below w.heap.size w w') : PlkAt w' g o x :=
  ⟨(hb.cell (p := ⟨g, _, none⟩) hg).trans h.1, (hb.cell (p := ⟨g, _, none⟩) hg).trans h.2.1, (hb.cell (p := ⟨g, _, none⟩) hg).trans h.2.2.1, (hb.cell (p := ⟨g, _, none⟩) hg).trans h.2.2.2.1, (hb.cell (p := ⟨g, _, none⟩) hg).trans h.2.2.2.2.1, (hb.cell (p := ⟨g, _, none⟩) hg).trans h.2.2.2.2.2⟩
theorem isSize_any (n : Int) (w : World) : Calls Tryd.prog 28 #[.int .i64 n] w fun e w' => e = .returned (.bool (inB n 1 2000)) ∧ w = w' := by
  go_enter Tryd.func28, Tryd.ntmps28
  go_wp2_with (go_at_call 29; refine (within64_any _ _ _ _).mono ?_; rintro e w' ⟨rfl, rfl⟩)
  go_ret
  exact ⟨rfl, rfl⟩
theorem l03Size_any (n : Int) (w : World) : Calls Tryd.prog 27 #[.int .i64 n] w fun e w' => e = .returned (.bool (inB n 1 2000)) ∧ w = w' := by
  go_enter Tryd.func27, Tryd.ntmps27
  go_wp2_with (go_at_call 25; refine (l00In_any _ _ _ _).mono ?_; rintro e w' ⟨rfl, rfl⟩)
  go_ret
  exact ⟨rfl, rfl⟩
set_option maxHeartbeats 1000000 in
theorem implValidPlank_any (s : ByteArray) (a b c d f : Int) (hs : s.size ≤ maxLen) (w : World) : Calls Tryd.prog 17 #[.agg #[.string s, .int .i64 a, .int .i64 b, .int .i64 c, .int .i64 d, .int .i64 f]] w fun e w' => e = .returned (.bool (plkB ⟨s, a, b, c, d, f⟩)) ∧ Below w.heap.size w w' := by
  have hx : Hid (plkB ⟨s, a, b, c, d, f⟩ = (nameL s.data.toList && inB a 1 2000 && inB b 1 2000 && inB c 1 2000 && inB d 1 100000 && inB f 1 500)) := Lib.hid rfl
  cases h1 : nameL s.data.toList
  · go_enter Tryd.func17, Tryd.ntmps17
    go_wp2_with (first
          | (go_at_call 22; refine (implIsName_any _ _ hs).mono ?_; rintro e w' ⟨rfl, rfl⟩)
          | (go_at_call 28; refine (isSize_any _ _).mono ?_; rintro e w' ⟨rfl, rfl⟩)
          | (go_at_call 29; refine (within64_any _ _ _ _).mono ?_; rintro e w' ⟨rfl, rfl⟩))
    go_ret
    exact ⟨ret_bool (by rw [hx.out, h1]; rfl), (Below.refl _ _).alloc (Nat.le_refl _) _⟩
  cases h2 : inB a 1 2000
  · go_enter Tryd.func17, Tryd.ntmps17
    go_wp2_with (first
          | (go_at_call 22; refine (implIsName_any _ _ hs).mono ?_; rintro e w' ⟨rfl, rfl⟩)
          | (go_at_call 28; refine (isSize_any _ _).mono ?_; rintro e w' ⟨rfl, rfl⟩)
          | (go_at_call 29; refine (within64_any _ _ _ _).mono ?_; rintro e w' ⟨rfl, rfl⟩))
    go_ret
    exact ⟨ret_bool (by rw [hx.out, h1, h2]; rfl), (Below.refl _ _).alloc (Nat.le_refl _) _⟩
  cases h3 : inB b 1 2000
  · go_enter Tryd.func17, Tryd.ntmps17
    go_wp2_with (first
          | (go_at_call 22; refine (implIsName_any _ _ hs).mono ?_; rintro e w' ⟨rfl, rfl⟩)
          | (go_at_call 28; refine (isSize_any _ _).mono ?_; rintro e w' ⟨rfl, rfl⟩)
          | (go_at_call 29; refine (within64_any _ _ _ _).mono ?_; rintro e w' ⟨rfl, rfl⟩))
    go_ret
    exact ⟨ret_bool (by rw [hx.out, h1, h2, h3]; rfl), (Below.refl _ _).alloc (Nat.le_refl _) _⟩
  cases h4 : inB c 1 2000
  · go_enter Tryd.func17, Tryd.ntmps17
    go_wp2_with (first
          | (go_at_call 22; refine (implIsName_any _ _ hs).mono ?_; rintro e w' ⟨rfl, rfl⟩)
          | (go_at_call 28; refine (isSize_any _ _).mono ?_; rintro e w' ⟨rfl, rfl⟩)
          | (go_at_call 29; refine (within64_any _ _ _ _).mono ?_; rintro e w' ⟨rfl, rfl⟩))
    go_ret
    exact ⟨ret_bool (by rw [hx.out, h1, h2, h3, h4]; rfl), (Below.refl _ _).alloc (Nat.le_refl _) _⟩
  cases h5 : inB d 1 100000
  · go_enter Tryd.func17, Tryd.ntmps17
    go_wp2_with (first
          | (go_at_call 22; refine (implIsName_any _ _ hs).mono ?_; rintro e w' ⟨rfl, rfl⟩)
          | (go_at_call 28; refine (isSize_any _ _).mono ?_; rintro e w' ⟨rfl, rfl⟩)
          | (go_at_call 29; refine (within64_any _ _ _ _).mono ?_; rintro e w' ⟨rfl, rfl⟩))
    go_ret
    exact ⟨ret_bool (by rw [hx.out, h1, h2, h3, h4, h5]; rfl), (Below.refl _ _).alloc (Nat.le_refl _) _⟩
  cases h6 : inB f 1 500
  · go_enter Tryd.func17, Tryd.ntmps17
    go_wp2_with (first
          | (go_at_call 22; refine (implIsName_any _ _ hs).mono ?_; rintro e w' ⟨rfl, rfl⟩)
          | (go_at_call 28; refine (isSize_any _ _).mono ?_; rintro e w' ⟨rfl, rfl⟩)
          | (go_at_call 29; refine (within64_any _ _ _ _).mono ?_; rintro e w' ⟨rfl, rfl⟩))
    go_ret
    exact ⟨ret_bool (by rw [hx.out, h1, h2, h3, h4, h5, h6]; rfl), (Below.refl _ _).alloc (Nat.le_refl _) _⟩
  go_enter Tryd.func17, Tryd.ntmps17
  go_wp2_with (first
        | (go_at_call 22; refine (implIsName_any _ _ hs).mono ?_; rintro e w' ⟨rfl, rfl⟩)
        | (go_at_call 28; refine (isSize_any _ _).mono ?_; rintro e w' ⟨rfl, rfl⟩)
        | (go_at_call 29; refine (within64_any _ _ _ _).mono ?_; rintro e w' ⟨rfl, rfl⟩))
  go_ret
  exact ⟨ret_bool (by rw [hx.out, h1, h2, h3, h4, h5, h6]; rfl), (Below.refl _ _).alloc (Nat.le_refl _) _⟩
set_option maxHeartbeats 1000000 in
theorem l03One_any (s : ByteArray) (a b c d f : Int) (hs : s.size ≤ maxLen) (w : World) (g o : Nat) (hat : PlkAt w g o ⟨s, a, b, c, d, f⟩) : Calls Tryd.prog 16 #[.pointer (some ⟨g, o, none⟩)] w fun e w' => e = .returned (.bool (plkB ⟨s, a, b, c, d, f⟩)) ∧ w = w' := by
  have hx : Hid (plkB ⟨s, a, b, c, d, f⟩ = (nameL s.data.toList && inB a 1 2000 && inB b 1 2000 && inB c 1 2000 && inB d 1 100000 && inB f 1 500)) := Lib.hid rfl
  obtain ⟨c0, c1, c2, c3, c4, c5⟩ := hat
  simp only at c0 c1 c2 c3 c4 c5
  cases h1 : nameL s.data.toList
  · go_enter Tryd.func16, Tryd.ntmps16
    go_wp2_with (first
          | (go_at_call 26; refine (l01Name_any _ _ hs).mono ?_; rintro e w' ⟨rfl, rfl⟩)
          | (go_at_call 27; refine (l03Size_any _ _).mono ?_; rintro e w' ⟨rfl, rfl⟩)
          | (go_at_call 25; refine (l00In_any _ _ _ _).mono ?_; rintro e w' ⟨rfl, rfl⟩))
    go_ret
    exact ⟨ret_bool (by rw [hx.out, h1]; rfl), rfl⟩
  cases h2 : inB a 1 2000
  · go_enter Tryd.func16, Tryd.ntmps16
    go_wp2_with (first
          | (go_at_call 26; refine (l01Name_any _ _ hs).mono ?_; rintro e w' ⟨rfl, rfl⟩)
          | (go_at_call 27; refine (l03Size_any _ _).mono ?_; rintro e w' ⟨rfl, rfl⟩)
          | (go_at_call 25; refine (l00In_any _ _ _ _).mono ?_; rintro e w' ⟨rfl, rfl⟩))
    go_ret
    exact ⟨ret_bool (by rw [hx.out, h1, h2]; rfl), rfl⟩
  cases h3 : inB b 1 2000
  · go_enter Tryd.func16, Tryd.ntmps16
    go_wp2_with (first
          | (go_at_call 26; refine (l01Name_any _ _ hs).mono ?_; rintro e w' ⟨rfl, rfl⟩)
          | (go_at_call 27; refine (l03Size_any _ _).mono ?_; rintro e w' ⟨rfl, rfl⟩)
          | (go_at_call 25; refine (l00In_any _ _ _ _).mono ?_; rintro e w' ⟨rfl, rfl⟩))
    go_ret
    exact ⟨ret_bool (by rw [hx.out, h1, h2, h3]; rfl), rfl⟩
  cases h4 : inB c 1 2000
  · go_enter Tryd.func16, Tryd.ntmps16
    go_wp2_with (first
          | (go_at_call 26; refine (l01Name_any _ _ hs).mono ?_; rintro e w' ⟨rfl, rfl⟩)
          | (go_at_call 27; refine (l03Size_any _ _).mono ?_; rintro e w' ⟨rfl, rfl⟩)
          | (go_at_call 25; refine (l00In_any _ _ _ _).mono ?_; rintro e w' ⟨rfl, rfl⟩))
    go_ret
    exact ⟨ret_bool (by rw [hx.out, h1, h2, h3, h4]; rfl), rfl⟩
  cases h5 : inB d 1 100000
  · go_enter Tryd.func16, Tryd.ntmps16
    go_wp2_with (first
          | (go_at_call 26; refine (l01Name_any _ _ hs).mono ?_; rintro e w' ⟨rfl, rfl⟩)
          | (go_at_call 27; refine (l03Size_any _ _).mono ?_; rintro e w' ⟨rfl, rfl⟩)
          | (go_at_call 25; refine (l00In_any _ _ _ _).mono ?_; rintro e w' ⟨rfl, rfl⟩))
    go_ret
    exact ⟨ret_bool (by rw [hx.out, h1, h2, h3, h4, h5]; rfl), rfl⟩
  cases h6 : inB f 1 500
  · go_enter Tryd.func16, Tryd.ntmps16
    go_wp2_with (first
          | (go_at_call 26; refine (l01Name_any _ _ hs).mono ?_; rintro e w' ⟨rfl, rfl⟩)
          | (go_at_call 27; refine (l03Size_any _ _).mono ?_; rintro e w' ⟨rfl, rfl⟩)
          | (go_at_call 25; refine (l00In_any _ _ _ _).mono ?_; rintro e w' ⟨rfl, rfl⟩))
    go_ret
    exact ⟨ret_bool (by rw [hx.out, h1, h2, h3, h4, h5, h6]; rfl), rfl⟩
  go_enter Tryd.func16, Tryd.ntmps16
  go_wp2_with (first
        | (go_at_call 26; refine (l01Name_any _ _ hs).mono ?_; rintro e w' ⟨rfl, rfl⟩)
        | (go_at_call 27; refine (l03Size_any _ _).mono ?_; rintro e w' ⟨rfl, rfl⟩)
        | (go_at_call 25; refine (l00In_any _ _ _ _).mono ?_; rintro e w' ⟨rfl, rfl⟩))
  go_ret
  exact ⟨ret_bool (by rw [hx.out, h1, h2, h3, h4, h5, h6]; rfl), rfl⟩
end Go.Proofs.YtfcdhjbnlokinaaDoor
