/-
  Strings of an instrument: their force, and whether they hold.
-/
import Derived.Test.YtnenccfmopjcjaaGreatDoorCrdIn
import Derived.BigQuiet
import Derived.Deep.QuietTactic
import Derived.Deep.RegionHeld3
namespace Go.Proofs.YtnenccfmopjcjaaGreatDoor
open Go.ChangeShapes Go.WideShapes Go.ChangeAt Go.RowKit Go.Deep
set_option linter.unusedVariables false
set_option linter.unusedSimpArgs false
set_option maxRecDepth 1000000
theorem one_box (w : World) (cs : Array Value) (T : TypeId) : (∀ i v, cs[i]? = some v → (w.alloc (.cells cs T)).cell? ⟨w.heap.size, i, none⟩ = some v) ∧ Below w.heap.size w (w.alloc (.cells cs T)) ∧ w.heap.size < (w.alloc (.cells cs T)).heap.size :=
  ⟨fun i v h => cellB (heap_alloc_new _ _) i v h, (Below.refl _ _).alloc (Nat.le_refl _) _, by simp⟩
set_option maxHeartbeats 1600000 in
theorem tension_any (a : Int) (b : Int) (c : Int) (d : Int) (ha : 1 ≤ a ∧ a ≤ 10000) (hb : 1 ≤ b ∧ b ≤ 500) (hc : 1 ≤ c ∧ c ≤ 10000) (w : World) : Calls Tryz.prog 20 #[.agg #[.int .i64 a, .int .i64 b, .int .i64 c, .int .i64 d]] w fun e w' => e = .returned (.int .i64 (tenV a b c)) ∧ Below w.heap.size w w' := by
  have hF := prdF ha hb hc
  have e1 := hF.e1
  have e2 := hF.e2
  have e3 := hF.e3
  have e4 := hF.e4
  have e5 := hF.e5
  have h0 := hF.lo
  have h1 := hF.hi
  clear hF
  go_enter Tryz.func20, Tryz.ntmps20
  go_wp2_with (go_at_call 35; refine (nearest_any _ _ (by decide) (by omega) (by omega) (by decide) (by decide) _).mono ?_; rintro e w' ⟨rfl, n, rfl⟩)
  go_ret
  exact ⟨rfl, belowN ((Below.refl _ _).alloc (Nat.le_refl _) _) n⟩
theorem l09Tension_any (a : Int) (b : Int) (c : Int) (d : Int) (ha : 1 ≤ a ∧ a ≤ 10000) (hb : 1 ≤ b ∧ b ≤ 500) (hc : 1 ≤ c ∧ c ≤ 10000) (w : World) (g o : Nat) (hat : CrdAt w g o ⟨a, b, c, d⟩) : Calls Tryz.prog 31 #[.pointer (some ⟨g, o, none⟩)] w fun e w' => e = .returned (.int .i64 (tenV a b c)) ∧ ∃ m, w' = w.drewN m := by
  obtain ⟨c0, c1, c2, c3⟩ := hat
  simp only at c0 c1 c2 c3
  have hF := prdF ha hb hc
  have e1 := hF.e1
  have e2 := hF.e2
  have e3 := hF.e3
  have e4 := hF.e4
  have e5 := hF.e5
  have h0 := hF.lo
  have h1 := hF.hi
  clear hF
  go_enter Tryz.func31, Tryz.ntmps31
  go_wp2
  go_quiet ((go_at_call 43; exact Qs (l01Div_any _ _ (by decide) (by omega) (by omega) (by decide) (by decide) _)))
  go_wp2
  go_ret
  exact ⟨rfl, _, rfl⟩
theorem l09Tension_q (a : Int) (b : Int) (c : Int) (d : Int) (ha : 1 ≤ a ∧ a ≤ 10000) (hb : 1 ≤ b ∧ b ≤ 500) (hc : 1 ≤ c ∧ c ≤ 10000) (w : World) (g o : Nat) (hat : CrdAt w g o ⟨a, b, c, d⟩) (n : Nat) : Calls Tryz.prog 31 #[.pointer (some ⟨g, o, none⟩)] (w.drewN n) fun e w' => e = .returned (.int .i64 (tenV a b c)) ∧ ∃ m, w' = w.drewN m :=
  (l09Tension_any a b c d ha hb hc (w.drewN n) g o hat).mono (by rintro e w' ⟨rfl, m, rfl⟩; exact ⟨rfl, n + m, by rw [World.drewN_drewN]⟩)
/-- does a string hold with a share of its strength? -/
def hldB (a b c d z : Int) : Bool := decide (1000 * tenV a b c ≤ z * d)
set_option maxHeartbeats 1600000 in
theorem holds_any (a : Int) (b : Int) (c : Int) (d : Int) (z : Int) (ha : 1 ≤ a ∧ a ≤ 10000) (hb : 1 ≤ b ∧ b ≤ 500) (hc : 1 ≤ c ∧ c ≤ 10000) (hd : 0 ≤ d ∧ d ≤ 500000) (hz : 0 ≤ z ∧ z ≤ 1000) (w : World) : Calls Tryz.prog 29 #[.agg #[.int .i64 a, .int .i64 b, .int .i64 c, .int .i64 d], .int .i64 z] w fun e w' => e = .returned (.bool (hldB a b c d z)) ∧ Below w.heap.size w w' := by
  have hT := ten_bd ha hb hc
  have cT := Lib.hid (fun W => tension_any a b c d ha hb hc W)
  have hh : Hid (hldB a b c d z = decide (1000 * tenV a b c ≤ z * d)) := Lib.hid rfl
  obtain ⟨T, hTe⟩ : ∃ T, T = tenV a b c := ⟨_, rfl⟩
  rw [← hTe] at hT cT hh
  have hzd := mulP_bd (a := z) (b := d) (A := 1000) (B := 500000) hz hd
  have w1 : IntKind.i64.wrap (1000 * T) = 1000 * T := IntWalk.i64_in _ (by omega)
  have w2 : IntKind.i64.wrap (z * d) = z * d := IntWalk.i64_in _ (by omega)
  clear hTe
  go_enter Tryz.func29, Tryz.ntmps29
  go_wp2_with fail
  obtain ⟨q1, hB0, hsz⟩ := one_box w #[.int .i64 a, .int .i64 b, .int .i64 c, .int .i64 d] 25
  generalize (w.alloc (.cells #[.int .i64 a, .int .i64 b, .int .i64 c, .int .i64 d] 25)) = W0 at q1 hB0 hsz ⊢
  have hS : ((W0.cell? ⟨w.heap.size, 0, none⟩ = some (.int .i64 a) ∧ W0.cell? ⟨w.heap.size, 1, none⟩ = some (.int .i64 b) ∧ W0.cell? ⟨w.heap.size, 2, none⟩ = some (.int .i64 c) ∧ W0.cell? ⟨w.heap.size, 3, none⟩ = some (.int .i64 d)) ∧ Below W0.heap.size W0 W0) := ⟨⟨q1 0 _ rfl, q1 1 _ rfl, q1 2 _ rfl, q1 3 _ rfl⟩, Below.refl _ _⟩
  have keep : ∀ W1 W2, ((W1.cell? ⟨w.heap.size, 0, none⟩ = some (.int .i64 a) ∧ W1.cell? ⟨w.heap.size, 1, none⟩ = some (.int .i64 b) ∧ W1.cell? ⟨w.heap.size, 2, none⟩ = some (.int .i64 c) ∧ W1.cell? ⟨w.heap.size, 3, none⟩ = some (.int .i64 d)) ∧ Below W0.heap.size W0 W1) → Below W1.heap.size W1 W2 → ((W2.cell? ⟨w.heap.size, 0, none⟩ = some (.int .i64 a) ∧ W2.cell? ⟨w.heap.size, 1, none⟩ = some (.int .i64 b) ∧ W2.cell? ⟨w.heap.size, 2, none⟩ = some (.int .i64 c) ∧ W2.cell? ⟨w.heap.size, 3, none⟩ = some (.int .i64 d)) ∧ Below W0.heap.size W0 W2) := fun W1 W2 h1 h2 => by
    obtain ⟨p0, hb⟩ := h1
    exact ⟨CrdAt.below (x := ⟨a, b, c, d⟩) (o := 0) p0 (Nat.lt_of_lt_of_le hsz hb.size) h2, hb.trans (h2.mono hb.size)⟩
  have keepH := Lib.hid keep
  clear keep
  clear q1
  go_wp2
  go_region_held3 (fun w' => ((w'.cell? ⟨w.heap.size, 0, none⟩ = some (.int .i64 a) ∧ w'.cell? ⟨w.heap.size, 1, none⟩ = some (.int .i64 b) ∧ w'.cell? ⟨w.heap.size, 2, none⟩ = some (.int .i64 c) ∧ w'.cell? ⟨w.heap.size, 3, none⟩ = some (.int .i64 d)) ∧ Below W0.heap.size W0 w'))
    (first | exact ⟨hS.1, belowN hS.2 1⟩ | exact keepH.out _ _ (by assumption) (by assumption) | assumption)
    (first | (go_at_call 20; (with_reducible refine (cT.out _).mono ?_); rintro e w' ⟨rfl, hbel⟩))
  rename_i hHeld
  go_wp2
  go_ret
  exact ⟨ret_bool hh.out.symm, below2 hB0 hHeld.2⟩
end Go.Proofs.YtnenccfmopjcjaaGreatDoor
