/-
  Contracts of the small functions that the laws draw with.
-/
import Derived.Test.YtnenccfmopjcjaaGreatDoorSrc
import Derived.Test.YtnenccfmopjcjaaGreatDoorInts
import Derived.Deep.CutRange
import Derived.IntWalk
namespace Go.Proofs.YtnenccfmopjcjaaGreatDoor
open Go.ChangeShapes Go.WideShapes Go.ChangeAt Go.RowKit
set_option linter.unusedVariables false
set_option linter.unusedSimpArgs false

/-- the byte at place k, 0 behind the end -/
def at8 (Z : List Int) (k : Nat) : Int := Z.getD k 0
theorem at8_in {Z : List Int} (h : ∀ n ∈ Z, 0 ≤ n ∧ n ≤ 255) (k : Nat) : 0 ≤ at8 Z k ∧ at8 Z k ≤ 255 := by
  unfold at8
  by_cases hk : k < Z.length
  · rw [List.getD_eq_getElem?_getD, List.getElem?_eq_getElem hk]; exact h _ (List.getElem_mem hk)
  · rw [List.getD_eq_getElem?_getD, List.getElem?_eq_none (by omega)]; decide

set_option maxHeartbeats 1600000 in
set_option maxRecDepth 1000000 in
theorem r8At_any (k B : Nat) (v : Value) (Z : List Int) (w : World) (hk : k ≤ 100) (hZ : Z.length ≤ 1048576) (hu : U8Old B w v Z) :
    Calls Tryz.prog 11 #[v, .int .i64 k, .int .i64 256] w fun e w' => e = .returned (.int .i64 (at8 Z k)) ∧ ∃ m, w' = w.drewN m := by
  obtain ⟨a, cap, rfl, hcap, hin, hread⟩ := hu
  have hi := at8_in hin k
  by_cases hlt : k < Z.length
  · rcases hread with rfl | ⟨g, o, rfl, hg0, hg, hc⟩
    · simp at hlt
    obtain ⟨x, hx⟩ : ∃ x, x = at8 Z k := ⟨_, rfl⟩
    have hx2 : x = Z[k] := by rw [hx]; unfold at8; rw [List.getD_eq_getElem?_getD, List.getElem?_eq_getElem hlt]; rfl
    have c3 : w.cell? ⟨g, o + k, none⟩ = some (.int .u8 x) := by rw [hx2]; exact hc k hlt
    rw [← hx] at hi ⊢
    have hx3 : x % 256 = x := by omega
    have hd : decide ((Z.length : Int) ≤ (k : Int)) = false := by simp; omega
    clear hc hin hx hx2
    go_enter Tryz.func11, Tryz.ntmps11
    go_wp2
    go_ret
    exact ⟨ret_int hx3, 0, rfl⟩
  · have hx : at8 Z k = 0 := by unfold at8; rw [List.getD_eq_getElem?_getD, List.getElem?_eq_none (by omega)]; rfl
    rw [hx]
    clear hread hin hi hx
    have hd : decide ((Z.length : Int) ≤ (k : Int)) = true := by simp; omega
    go_enter Tryz.func11, Tryz.ntmps11
    go_wp2
    go_ret
    exact ⟨rfl, 0, rfl⟩
/-- two bytes, below n -/
def wide8 (Z : List Int) (k : Nat) (n : Int) : Int := (256 * at8 Z k + at8 Z (k + 1)) % n
theorem wide8_in (Z : List Int) (k : Nat) (n : Int) (h : 0 < n) : 0 ≤ wide8 Z k n ∧ wide8 Z k n < n := ⟨Int.emod_nonneg _ (by omega), Int.emod_lt_of_pos _ h⟩

set_option maxHeartbeats 1600000 in
set_option maxRecDepth 1000000 in
theorem r8Wide_any (k B : Nat) (n : Int) (v : Value) (Z : List Int) (w : World) (hk : k ≤ 90) (h1 : 1 < n) (h2 : n ≤ 100000) (hZ : Z.length ≤ 1048576) (hu : U8Old B w v Z) :
    Calls Tryz.prog 15 #[v, .int .i64 k, .int .i64 n] w fun e w' => e = .returned (.int .i64 (wide8 Z k n)) ∧ ∃ m, w' = w.drewN m := by
  obtain ⟨x, hx⟩ : ∃ x, x = at8 Z k := ⟨_, rfl⟩
  obtain ⟨y, hy⟩ : ∃ y, y = at8 Z (k + 1) := ⟨_, rfl⟩
  have hin : ∀ n ∈ Z, 0 ≤ n ∧ n ≤ 255 := by obtain ⟨a, cap, rfl, hcap, hin, hread⟩ := hu; exact hin
  have q1 : ∀ m, Calls Tryz.prog 11 #[v, .int .i64 k, .int .i64 256] (w.drewN m) fun e w' => e = .returned (.int .i64 x) ∧ ∃ m', w' = (w.drewN m).drewN m' := fun m => by rw [hx]; exact r8At_any k B v Z _ (by omega) hZ (hu.drewN m)
  have q2 : ∀ m, Calls Tryz.prog 11 #[v, .int .i64 ((k : Int) + 1), .int .i64 256] (w.drewN m) fun e w' => e = .returned (.int .i64 y) ∧ ∃ m', w' = (w.drewN m).drewN m' := fun m => by
    rw [hy]; exact r8At_any (k + 1) B v Z _ (by omega) hZ (hu.drewN m)
  have hx2 := at8_in hin k
  have hy2 := at8_in hin (k + 1)
  unfold wide8
  rw [← hx] at hx2 ⊢
  rw [← hy] at hy2 ⊢
  clear hx hy hin hu
  go_enter Tryz.func15, Tryz.ntmps15
  go_wp2_with fail
  refine (q1 0).mono ?_
  rintro e _ ⟨rfl, m1, rfl⟩
  go_wp2_with fail
  refine (q2 m1).mono ?_
  rintro e _ ⟨rfl, m2, rfl⟩
  go_wp2
  go_ret
  exact ⟨rfl, _, rfl⟩

set_option maxHeartbeats 1600000 in
set_option maxRecDepth 1000000 in
theorem r8Abs_any (n : Int) (h0 : -9000000000000000000 ≤ n) (h1 : n ≤ 9000000000000000000) (w : World) :
    Calls Tryz.prog 17 #[.int .i64 n] w fun e w' => e = .returned (.int .i64 (max n (-n))) ∧ w = w' := by
  go_enter Tryz.func17, Tryz.ntmps17
  go_wp2 <;> go_ret
  · exact ⟨ret_int (by omega), rfl⟩
  · exact ⟨ret_int (by omega), rfl⟩

set_option maxHeartbeats 1600000 in
set_option maxRecDepth 1000000 in
theorem r8Long_no (a0 : Option Addr) (len0 cap0 : Nat) (a1 : Option Addr) (len1 cap1 : Nat) (h0 : len0 ≤ 1048576) (h1 : len1 ≤ 1048576) (w : World) :
    Calls Tryz.prog 4 #[.slice a0 len0 cap0, .slice a1 len1 cap1] w fun e w' => e = .returned (.bool false) ∧ w = w' := by
  go_enter Tryz.func4, Tryz.ntmps4
  go_wp2
  go_ret
  exact ⟨ret_bool (by rw [decide_eq_false (show ¬ (1048576 : Int) < (len0 : Int) by omega), decide_eq_false (show ¬ (1048576 : Int) < (len1 : Int) by omega)]; rfl), rfl⟩
set_option maxHeartbeats 1600000 in
set_option maxRecDepth 1000000 in
theorem r8Long_first (a0 : Option Addr) (len0 cap0 : Nat) (a1 : Option Addr) (len1 cap1 : Nat) (h0 : ¬ len0 ≤ 1048576) (h2 : len0 ≤ maxLen) (w : World) :
    Calls Tryz.prog 4 #[.slice a0 len0 cap0, .slice a1 len1 cap1] w fun e w' => e = .returned (.bool true) ∧ w = w' := by
  go_enter Tryz.func4, Tryz.ntmps4
  go_wp2
  go_ret
  exact ⟨rfl, rfl⟩
set_option maxHeartbeats 1600000 in
set_option maxRecDepth 1000000 in
theorem r8Long_second (a0 : Option Addr) (len0 cap0 : Nat) (a1 : Option Addr) (len1 cap1 : Nat) (h0 : len0 ≤ 1048576) (h1 : ¬ len1 ≤ 1048576) (h2 : len1 ≤ maxLen) (w : World) :
    Calls Tryz.prog 4 #[.slice a0 len0 cap0, .slice a1 len1 cap1] w fun e w' => e = .returned (.bool true) ∧ w = w' := by
  go_enter Tryz.func4, Tryz.ntmps4
  go_wp2
  go_ret
  exact ⟨ret_bool (by rw [decide_eq_false (show ¬ (1048576 : Int) < (len0 : Int) by omega), decide_eq_true (show (1048576 : Int) < (len1 : Int) by omega)]; rfl), rfl⟩
/-- a new row of five numbers -/
theorem ints_five (W : World) (t : TypeId) (a b x y z : Int) (ha : inI a) (hb : inI b) (hx : inI x) (hy : inI y) (hz : inI z) :
    IntsAt (W.alloc (.cells #[.int .i64 a, .int .i64 b, .int .i64 x, .int .i64 y, .int .i64 z] t)) (.slice (some ⟨W.heap.size, 0, none⟩) 5 5) [a, b, x, y, z] := by
  refine ⟨some ⟨W.heap.size, 0, none⟩, 5, rfl, Nat.le_refl 5, ?_, Or.inr ⟨W.heap.size, 0, rfl, by simp, ?_⟩⟩
  · intro n hn
    simp only [List.mem_cons, List.mem_nil_iff, or_false] at hn
    rcases hn with rfl | rfl | rfl | rfl | rfl <;> assumption
  · intro i hi
    rw [Nat.zero_add, World.cell?_alloc_mark]
    match i, hi with
    | 0, _ => rfl
    | 1, _ => rfl
    | 2, _ => rfl
    | 3, _ => rfl
    | 4, _ => rfl
end Go.Proofs.YtnenccfmopjcjaaGreatDoor
