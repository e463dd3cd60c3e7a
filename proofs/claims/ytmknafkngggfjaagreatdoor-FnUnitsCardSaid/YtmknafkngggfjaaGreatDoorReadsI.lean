/-
  Contracts of the program's readers of chapter 2.
-/
import Derived.Test.YtmknafkngggfjaaGreatDoorPartsI
import Derived.Test.YtmknafkngggfjaaGreatDoorText5
import Derived.Deep.QuietTactic
import Derived.BigQuiet
namespace Go.Proofs.YtmknafkngggfjaaGreatDoor
open Go.ChangeShapes Go.WideShapes Go.ChangeAt Go.RowKit
set_option linter.unusedVariables false
set_option linter.unusedSimpArgs false
theorem str_ne {A B : ByteArray} (h : A.data.toList ≠ B.data.toList) : (A.toList == B.toList) = false := by
  rw [beq_eq_false_iff_ne]; intro e
  rw [ByteArray.toList_eq, ByteArray.toList_eq] at e
  exact h e
theorem str_eq {A B : ByteArray} (h : A.data.toList = B.data.toList) : A = B := (bytes_of A _ h).trans (bytes_of B _ rfl).symm
def backR (n : Int) (A B : ByteArray) : Option Int := if A.data.toList = B.data.toList then some n else none
theorem readBack_any (n : Int) (A B : ByteArray) (w : World) : Calls Tryz.prog 39 #[.int .i64 n, .string A, .string B] w fun e w' => e = .returned (optV (backR n A B)) ∧ w = w' := by
  by_cases h : A.data.toList = B.data.toList
  · have e := str_eq h
    subst e
    have hr : Hid (optV (backR n A A) = .tuple #[.int .i64 n, .bool true]) := Lib.hid (by unfold backR; rw [if_pos rfl]; rfl)
    clear h
    go_enter Tryz.func39, Tryz.ntmps39
    go_wp2
    go_ret2
    exact ⟨congrArg Ending.returned hr.out.symm, rfl⟩
  · have hr : Hid (optV (backR n A B) = .tuple #[.int .i64 0, .bool false]) := Lib.hid (by unfold backR; rw [if_neg h]; rfl)
    have hne := str_ne h
    clear h
    go_enter Tryz.func39, Tryz.ntmps39
    go_wp2
    go_ret2
    exact ⟨congrArg Ending.returned hr.out.symm, rfl⟩
theorem row_two {w : World} {B : Nat} {v : Value} {a b : Int} (h : w.ownsRow B 2 1 v 2 [.int .i64 a, .int .i64 b]) : ∃ g cap, v = .slice (some ⟨g, 0, none⟩) 2 cap ∧ 2 ≤ cap ∧ w.cell? ⟨g, 0, none⟩ = some (.int .i64 a) ∧ w.cell? ⟨g, 1, none⟩ = some (.int .i64 b) := by
  have h0 := h
  rcases h.2 with ⟨h1, h2⟩ | ⟨g, cap, cur, hv, hg, hb, hn, hcap, _, _⟩
  · omega
  · subst hv
    exact ⟨g, cap, rfl, hn, by rw [h0.cellAt 0 (by omega)]; rfl, by rw [h0.cellAt 1 (by omega)]; rfl⟩
theorem row_three {w : World} {B : Nat} {v : Value} {a b c : Int} (h : w.ownsRow B 2 1 v 3 [.int .i64 a, .int .i64 b, .int .i64 c]) : ∃ g cap, v = .slice (some ⟨g, 0, none⟩) 3 cap ∧ 3 ≤ cap ∧ w.cell? ⟨g, 0, none⟩ = some (.int .i64 a) ∧ w.cell? ⟨g, 1, none⟩ = some (.int .i64 b) ∧ w.cell? ⟨g, 2, none⟩ = some (.int .i64 c) := by
  have h0 := h
  rcases h.2 with ⟨h1, h2⟩ | ⟨g, cap, cur, hv, hg, hb, hn, hcap, _, _⟩
  · omega
  · subst hv
    exact ⟨g, cap, rfl, hn, by rw [h0.cellAt 0 (by omega)]; rfl, by rw [h0.cellAt 1 (by omega)]; rfl, by rw [h0.cellAt 2 (by omega)]; rfl⟩
theorem rpL_cases (c : UInt8) (l : List UInt8) : rpL c 2 l = none ∨ ∃ a b : Nat, a ≤ 4294967295 ∧ b ≤ 4294967295 ∧ rpL c 2 l = some [a, b] := by
  cases h : rpL c 2 l with
  | none => exact Or.inl rfl
  | some Z =>
    unfold rpL at h
    split at h
    · rename_i hl
      have h1 := rpAll_len h
      rw [hl] at h1
      have h2 := rpAll_le h
      match Z, h1 with
      | [a, b], _ => exact Or.inr ⟨a, b, h2 a (by simp), h2 b (by simp), rfl⟩
    · cases h
theorem rpL_cases3 (c : UInt8) (l : List UInt8) : rpL c 3 l = none ∨ ∃ a b d : Nat, a ≤ 4294967295 ∧ b ≤ 4294967295 ∧ d ≤ 4294967295 ∧ rpL c 3 l = some [a, b, d] := by
  cases h : rpL c 3 l with
  | none => exact Or.inl rfl
  | some Z =>
    unfold rpL at h
    split at h
    · rename_i hl
      have h1 := rpAll_len h
      rw [hl] at h1
      have h2 := rpAll_le h
      match Z, h1 with
      | [a, b, d], _ => exact Or.inr ⟨a, b, d, h2 a (by simp), h2 b (by simp), h2 d (by simp), rfl⟩
    · cases h
/-- what the reader of parts hands back, opened -/
theorem parts_none {c : UInt8} {m : Nat} {l : List UInt8} {w w' : World} {e : Ending} (h : LRet ((rpL c m l).map upI) w e w') (hn : rpL c m l = none) : e = .returned (.tuple #[.slice none 0 0, .bool false]) ∧ Below w.heap.size w w' := by rw [hn] at h; exact h
theorem parts_two {c : UInt8} {l : List UInt8} {a b : Nat} {w w' : World} {e : Ending} (h : LRet ((rpL c 2 l).map upI) w e w') (hn : rpL c 2 l = some [a, b]) : ∃ g cap, e = .returned (.tuple #[.slice (some ⟨g, 0, none⟩) 2 cap, .bool true]) ∧ 2 ≤ cap ∧ w'.cell? ⟨g, 0, none⟩ = some (.int .i64 (a : Int)) ∧ w'.cell? ⟨g, 1, none⟩ = some (.int .i64 (b : Int)) ∧ Below w.heap.size w w' := by
  rw [hn] at h
  obtain ⟨v, he, ho, hb⟩ := h
  obtain ⟨g, cap, rfl, hc, c0, c1⟩ := row_two (a := (a : Int)) (b := (b : Int)) ho
  exact ⟨g, cap, he, hc, c0, c1, hb⟩
theorem parts_three {c : UInt8} {l : List UInt8} {a b d : Nat} {w w' : World} {e : Ending} (h : LRet ((rpL c 3 l).map upI) w e w') (hn : rpL c 3 l = some [a, b, d]) : ∃ g cap, e = .returned (.tuple #[.slice (some ⟨g, 0, none⟩) 3 cap, .bool true]) ∧ 3 ≤ cap ∧ w'.cell? ⟨g, 0, none⟩ = some (.int .i64 (a : Int)) ∧ w'.cell? ⟨g, 1, none⟩ = some (.int .i64 (b : Int)) ∧ w'.cell? ⟨g, 2, none⟩ = some (.int .i64 (d : Int)) ∧ Below w.heap.size w w' := by
  rw [hn] at h
  obtain ⟨v, he, ho, hb⟩ := h
  obtain ⟨g, cap, rfl, hc, c0, c1, c2⟩ := row_three (a := (a : Int)) (b := (b : Int)) (c := (d : Int)) ho
  exact ⟨g, cap, he, hc, c0, c1, c2, hb⟩
set_option maxHeartbeats 1600000 in
set_option maxRecDepth 1000000 in
theorem sixClock_any (s : ByteArray) (w : World) (hs : s.size ≤ 1048576) (hT : TabP w) (hE : ErrsAt w) (hSh : w.ShapedOpen Tryz.prog) :
    Calls Tryz.prog 28 #[.string s, .func (Fn.func 6) #[] #[]] w fun e w' => e = .returned (optV (sixR clockT s.data.toList)) ∧ Below w.heap.size w w' := by
  have hc0 := readParts_any s 58 2 2 rfl (by omega) (by omega) w hs hE hSh
  have hT' := Lib.hid hT
  rcases rpL_cases 58 s.data.toList with hn | ⟨a, b, ha, hb, hn⟩
  · have hr : Hid (optV (sixR clockT s.data.toList) = .tuple #[.int .i64 0, .bool false]) := Lib.hid (by unfold sixR; rw [hn]; rfl)
    have hc := Lib.hid (hc0.mono fun e w' h => parts_none h hn)
    clear hc0 hn hT
    go_enter Tryz.func28, Tryz.ntmps28
    go_wp2_with (go_at_call 38; refine hc.out.mono ?_; rintro e w1 ⟨rfl, b1⟩)
    go_ret2
    exact ⟨congrArg Ending.returned hr.out.symm, b1⟩
  · have hr : Hid (sixR clockT s.data.toList = if clockT (60 * (a : Int) + b) = s.data.toList then some (60 * (a : Int) + b) else none) := Lib.hid (by unfold sixR; rw [hn])
    have hc := Lib.hid (hc0.mono fun e w' h => parts_two h hn)
    obtain ⟨X, hX⟩ : ∃ X : Int, X = 60 * (a : Int) := ⟨_, rfl⟩
    have hX0 : 0 ≤ X := by omega
    have hX1 : X ≤ 257698037700 := by omega
    have e1 : IntKind.i64.wrap (60 * (a : Int)) = X := by rw [← hX]; exact IntWalk.i64_in _ (by omega)
    have e2 : IntKind.i64.wrap (X + (b : Int)) = X + (b : Int) := IntWalk.i64_in _ (by omega)
    obtain ⟨D, hD, _, cD⟩ := str_all (C := TabP) (fun W h => implClockText_any (X + (b : Int)) W h)
    have hD' := Lib.hid hD
    have hX' := Lib.hid hX
    clear hc0 hn hT hX hD
    go_enter Tryz.func28, Tryz.ntmps28
    go_wp2_with (go_at_call 38; refine hc.out.mono ?_; rintro e w1 ⟨g, cap, rfl, hcap, c0, c1, b1⟩)
    go_quiet (fail)
    clear e1 e2
    go_wp2_with fail
    refine (cD.out _ (hT'.out.below (belowN b1 _))).mono ?_
    rintro e w2 ⟨rfl, b2⟩
    go_wp2_with fail
    refine (readBack_any _ D s w2).mono ?_
    rintro e _ ⟨rfl, rfl⟩
    have hfin : Hid (optV (backR (X + (b : Int)) D s) = optV (sixR clockT s.data.toList)) := Lib.hid (by unfold backR; rw [hr.out, hD'.out, ← hX'.out])
    rw [hfin.out]
    cases ho : sixR clockT s.data.toList
    all_goals
      simp only [optV]
      go_wp2
      go_ret2
      exact ⟨by rw [ho]; rfl, below2 (belowN b1 _) b2⟩
theorem implReadClock_any (s : ByteArray) (w : World) (hs : s.size ≤ 1048576) (hT : TabP w) (hE : ErrsAt w) (hSh : w.ShapedOpen Tryz.prog) :
    Calls Tryz.prog 7 #[.string s] w fun e w' => e = .returned (optV (clockR s.data.toList)) ∧ Below w.heap.size w w' := by
  have hc := sixClock_any s w hs hT hE hSh
  rw [sixR_clock] at hc
  cases ho : clockR s.data.toList
  all_goals
    rw [ho] at hc
    simp only [optV] at hc
    have hc' := Lib.hid hc
    clear hc hT
    go_enter Tryz.func7, Tryz.ntmps7
    go_wp2_with (go_at_call 28; refine hc'.out.mono ?_; rintro e w1 ⟨rfl, b1⟩)
    go_ret2
    exact ⟨rfl, b1⟩
set_option maxHeartbeats 1600000 in
set_option maxRecDepth 1000000 in
theorem sixLap_any (s : ByteArray) (w : World) (hs : s.size ≤ 1048576) (hT : TabP w) (hE : ErrsAt w) (hSh : w.ShapedOpen Tryz.prog) :
    Calls Tryz.prog 28 #[.string s, .func (Fn.func 12) #[] #[]] w fun e w' => e = .returned (optV (sixR lapT s.data.toList)) ∧ Below w.heap.size w w' := by
  have hc0 := readParts_any s 58 2 2 rfl (by omega) (by omega) w hs hE hSh
  have hT' := Lib.hid hT
  rcases rpL_cases 58 s.data.toList with hn | ⟨a, b, ha, hb, hn⟩
  · have hr : Hid (optV (sixR lapT s.data.toList) = .tuple #[.int .i64 0, .bool false]) := Lib.hid (by unfold sixR; rw [hn]; rfl)
    have hc := Lib.hid (hc0.mono fun e w' h => parts_none h hn)
    clear hc0 hn hT
    go_enter Tryz.func28, Tryz.ntmps28
    go_wp2_with (go_at_call 38; refine hc.out.mono ?_; rintro e w1 ⟨rfl, b1⟩)
    go_ret2
    exact ⟨congrArg Ending.returned hr.out.symm, b1⟩
  · have hr : Hid (sixR lapT s.data.toList = if lapT (60 * (a : Int) + b) = s.data.toList then some (60 * (a : Int) + b) else none) := Lib.hid (by unfold sixR; rw [hn])
    have hc := Lib.hid (hc0.mono fun e w' h => parts_two h hn)
    obtain ⟨X, hX⟩ : ∃ X : Int, X = 60 * (a : Int) := ⟨_, rfl⟩
    have hX0 : 0 ≤ X := by omega
    have hX1 : X ≤ 257698037700 := by omega
    have e1 : IntKind.i64.wrap (60 * (a : Int)) = X := by rw [← hX]; exact IntWalk.i64_in _ (by omega)
    have e2 : IntKind.i64.wrap (X + (b : Int)) = X + (b : Int) := IntWalk.i64_in _ (by omega)
    obtain ⟨D, hD, _, cD⟩ := str_all (C := TabP) (fun W h => implLapText_any (X + (b : Int)) W h)
    have hD' := Lib.hid hD
    have hX' := Lib.hid hX
    clear hc0 hn hT hX hD
    go_enter Tryz.func28, Tryz.ntmps28
    go_wp2_with (go_at_call 38; refine hc.out.mono ?_; rintro e w1 ⟨g, cap, rfl, hcap, c0, c1, b1⟩)
    go_quiet (fail)
    clear e1 e2
    go_wp2_with fail
    refine (cD.out _ (hT'.out.below (belowN b1 _))).mono ?_
    rintro e w2 ⟨rfl, b2⟩
    go_wp2_with fail
    refine (readBack_any _ D s w2).mono ?_
    rintro e _ ⟨rfl, rfl⟩
    have hfin : Hid (optV (backR (X + (b : Int)) D s) = optV (sixR lapT s.data.toList)) := Lib.hid (by unfold backR; rw [hr.out, hD'.out, ← hX'.out])
    rw [hfin.out]
    cases ho : sixR lapT s.data.toList
    all_goals
      simp only [optV]
      go_wp2
      go_ret2
      exact ⟨by rw [ho]; rfl, below2 (belowN b1 _) b2⟩
theorem implReadLap_any (s : ByteArray) (w : World) (hs : s.size ≤ 1048576) (hT : TabP w) (hE : ErrsAt w) (hSh : w.ShapedOpen Tryz.prog) :
    Calls Tryz.prog 13 #[.string s] w fun e w' => e = .returned (optV (lapR s.data.toList)) ∧ Below w.heap.size w w' := by
  have hc := sixLap_any s w hs hT hE hSh
  rw [sixR_lap] at hc
  cases ho : lapR s.data.toList
  all_goals
    rw [ho] at hc
    simp only [optV] at hc
    have hc' := Lib.hid hc
    clear hc hT
    go_enter Tryz.func13, Tryz.ntmps13
    go_wp2_with (go_at_call 28; refine hc'.out.mono ?_; rintro e w1 ⟨rfl, b1⟩)
    go_ret2
    exact ⟨rfl, b1⟩
end Go.Proofs.YtmknafkngggfjaaGreatDoor
