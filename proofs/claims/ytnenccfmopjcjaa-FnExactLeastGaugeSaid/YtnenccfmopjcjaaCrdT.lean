/-
  Strings of an instrument: their force, and whether they hold.
-/
import Derived.Test.YtnenccfmopjcjaaCrdIn
import Derived.BigQuiet
import Derived.Deep.QuietTactic
import Derived.Deep.RegionHeld3
namespace Go.Proofs.Ytnenccfmopjcjaa
open Go.ChangeShapes Go.WideShapes Go.ChangeAt Go.RowKit Go.Deep
set_option linter.unusedVariables false
set_option linter.unusedSimpArgs false
set_option maxRecDepth 1000000
theorem one_box (w : World) (cs : Array Value) (T : TypeId) : (∀ i v, cs[i]? = some v → (w.alloc (.cells cs T)).cell? ⟨w.heap.size, i, none⟩ = some v) ∧ Below w.heap.size w (w.alloc (.cells cs T)) ∧ w.heap.size < (w.alloc (.cells cs T)).heap.size :=
  ⟨fun i v h => cellB (heap_alloc_new _ _) i v h, (Below.refl _ _).alloc (Nat.le_refl _) _, by simp⟩
set_option maxHeartbeats 1600000 in
theorem tension_any (a : Int) (b : Int) (c : Int) (d : Int) (ha : 1 ≤ a ∧ a ≤ 10000) (hb : 1 ≤ b ∧ b ≤ 500) (hc : 1 ≤ c ∧ c ≤ 10000) (w : World) : Calls Try.prog 15 #[.agg #[.int .i64 a, .int .i64 b, .int .i64 c, .int .i64 d]] w fun e w' => e = .returned (.int .i64 (tenV a b c)) ∧ Below w.heap.size w w' := by
  have hF := prdF ha hb hc
  have e1 := hF.e1
  have e2 := hF.e2
  have e3 := hF.e3
  have e4 := hF.e4
  have e5 := hF.e5
  have h0 := hF.lo
  have h1 := hF.hi
  clear hF
  go_enter Try.func15, Try.ntmps15
  go_wp2_with (go_at_call 20; refine (nearest_any _ _ (by decide) (by omega) (by omega) (by decide) (by decide) _).mono ?_; rintro e w' ⟨rfl, n, rfl⟩)
  go_ret
  exact ⟨rfl, belowN ((Below.refl _ _).alloc (Nat.le_refl _) _) n⟩
theorem l09Tension_any (a : Int) (b : Int) (c : Int) (d : Int) (ha : 1 ≤ a ∧ a ≤ 10000) (hb : 1 ≤ b ∧ b ≤ 500) (hc : 1 ≤ c ∧ c ≤ 10000) (w : World) (g o : Nat) (hat : CrdAt w g o ⟨a, b, c, d⟩) : Calls Try.prog 9 #[.pointer (some ⟨g, o, none⟩)] w fun e w' => e = .returned (.int .i64 (tenV a b c)) ∧ ∃ m, w' = w.drewN m := by
  obtain ⟨c0, c1, c2, c3⟩ := hat
  simp only at c0 c1 c2 c3
  have hF := prdF ha hb hc
  have e1 := hF.e1
  have e2 := hF.e2
  have e3 := hF.e3
  have e4 := hF.e4
  have e5 := hF.e5
  have h0 := hF.lo
  have h1 := hF.hi
  clear hF
  go_enter Try.func9, Try.ntmps9
  go_wp2
  go_quiet ((go_at_call 16; exact Qs (l01Div_any _ _ (by decide) (by omega) (by omega) (by decide) (by decide) _)))
  go_wp2
  go_ret
  exact ⟨rfl, _, rfl⟩
theorem l09Tension_q (a : Int) (b : Int) (c : Int) (d : Int) (ha : 1 ≤ a ∧ a ≤ 10000) (hb : 1 ≤ b ∧ b ≤ 500) (hc : 1 ≤ c ∧ c ≤ 10000) (w : World) (g o : Nat) (hat : CrdAt w g o ⟨a, b, c, d⟩) (n : Nat) : Calls Try.prog 9 #[.pointer (some ⟨g, o, none⟩)] (w.drewN n) fun e w' => e = .returned (.int .i64 (tenV a b c)) ∧ ∃ m, w' = w.drewN m :=
  (l09Tension_any a b c d ha hb hc (w.drewN n) g o hat).mono (by rintro e w' ⟨rfl, m, rfl⟩; exact ⟨rfl, n + m, by rw [World.drewN_drewN]⟩)
/-- does a string hold with a share of its strength? -/
def hldB (a b c d z : Int) : Bool := decide (1000 * tenV a b c ≤ z * d)
end Go.Proofs.Ytnenccfmopjcjaa
