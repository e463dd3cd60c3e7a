/-
  Strings of an instrument: validity of one, by value and by a pointer; bounds of products.
-/
import Derived.Test.YtnenccfmopjcjaaDoorCrd
import Derived.Test.YtnenccfmopjcjaaDoorMul
namespace Go.Proofs.YtnenccfmopjcjaaDoor
open Go.ChangeShapes Go.WideShapes Go.ChangeAt Go.RowKit Go.Deep
set_option linter.unusedVariables false
set_option linter.unusedSimpArgs false
set_option maxRecDepth 1000000
/-- a string is valid -/
def crdB (x : Crd) : Bool := inB x.pit 1 10000 && inB x.len 1 500 && inB x.gau 1 10000 && inB x.str 1 500000
theorem isGauge_any (n : Int) (w : World) : Calls Tryd.prog 16 #[.int .i64 n] w fun e w' => e = .returned (.bool (inB n 1 10000)) ∧ w = w' := by
  go_enter Tryd.func16, Tryd.ntmps16
  go_wp2_with (go_at_call 15; refine (within64_any _ _ _ _).mono ?_; rintro e w' ⟨rfl, rfl⟩)
  go_ret
  exact ⟨rfl, rfl⟩
set_option maxHeartbeats 1000000 in
theorem implValidString_any (a : Int) (b : Int) (c : Int) (d : Int)  (w : World) : Calls Tryd.prog 10 #[.agg #[.int .i64 a, .int .i64 b, .int .i64 c, .int .i64 d]] w fun e w' => e = .returned (.bool (crdB ⟨a, b, c, d⟩)) ∧ Below w.heap.size w w' := by
  have hx : Hid (crdB ⟨a, b, c, d⟩ = (inB a 1 10000 && inB b 1 500 && inB c 1 10000 && inB d 1 500000)) := Lib.hid rfl
  cases h1 : inB a 1 10000
  · go_enter Tryd.func10, Tryd.ntmps10
    go_wp2_with (first
          | (go_at_call 15; refine (within64_any _ _ _ _).mono ?_; rintro e w' ⟨rfl, rfl⟩)
          | (go_at_call 16; refine (isGauge_any _ _).mono ?_; rintro e w' ⟨rfl, rfl⟩))
    go_ret
    exact ⟨ret_bool (by rw [hx.out, h1]; rfl), (Below.refl _ _).alloc (Nat.le_refl _) _⟩
  cases h2 : inB b 1 500
  · go_enter Tryd.func10, Tryd.ntmps10
    go_wp2_with (first
          | (go_at_call 15; refine (within64_any _ _ _ _).mono ?_; rintro e w' ⟨rfl, rfl⟩)
          | (go_at_call 16; refine (isGauge_any _ _).mono ?_; rintro e w' ⟨rfl, rfl⟩))
    go_ret
    exact ⟨ret_bool (by rw [hx.out, h1, h2]; rfl), (Below.refl _ _).alloc (Nat.le_refl _) _⟩
  cases h3 : inB c 1 10000
  · go_enter Tryd.func10, Tryd.ntmps10
    go_wp2_with (first
          | (go_at_call 15; refine (within64_any _ _ _ _).mono ?_; rintro e w' ⟨rfl, rfl⟩)
          | (go_at_call 16; refine (isGauge_any _ _).mono ?_; rintro e w' ⟨rfl, rfl⟩))
    go_ret
    exact ⟨ret_bool (by rw [hx.out, h1, h2, h3]; rfl), (Below.refl _ _).alloc (Nat.le_refl _) _⟩
  cases h4 : inB d 1 500000
  · go_enter Tryd.func10, Tryd.ntmps10
    go_wp2_with (first
          | (go_at_call 15; refine (within64_any _ _ _ _).mono ?_; rintro e w' ⟨rfl, rfl⟩)
          | (go_at_call 16; refine (isGauge_any _ _).mono ?_; rintro e w' ⟨rfl, rfl⟩))
    go_ret
    exact ⟨ret_bool (by rw [hx.out, h1, h2, h3, h4]; rfl), (Below.refl _ _).alloc (Nat.le_refl _) _⟩
  go_enter Tryd.func10, Tryd.ntmps10
  go_wp2_with (first
        | (go_at_call 15; refine (within64_any _ _ _ _).mono ?_; rintro e w' ⟨rfl, rfl⟩)
        | (go_at_call 16; refine (isGauge_any _ _).mono ?_; rintro e w' ⟨rfl, rfl⟩))
  go_ret
  exact ⟨ret_bool (by rw [hx.out, h1, h2, h3, h4]; rfl), (Below.refl _ _).alloc (Nat.le_refl _) _⟩
set_option maxHeartbeats 1000000 in
theorem l09One_any (a : Int) (b : Int) (c : Int) (d : Int)  (w : World) (g o : Nat) (hat : CrdAt w g o ⟨a, b, c, d⟩) : Calls Tryd.prog 8 #[.pointer (some ⟨g, o, none⟩)] w fun e w' => e = .returned (.bool (crdB ⟨a, b, c, d⟩)) ∧ w = w' := by
  have hx : Hid (crdB ⟨a, b, c, d⟩ = (inB a 1 10000 && inB b 1 500 && inB c 1 10000 && inB d 1 500000)) := Lib.hid rfl
  obtain ⟨c0, c1, c2, c3⟩ := hat
  simp only at c0 c1 c2 c3
  cases h1 : inB a 1 10000
  · go_enter Tryd.func8, Tryd.ntmps8
    go_wp2_with (go_at_call 13; refine (l00In_any _ _ _ _).mono ?_; rintro e w' ⟨rfl, rfl⟩)
    go_ret
    exact ⟨ret_bool (by rw [hx.out, h1]; rfl), rfl⟩
  cases h2 : inB b 1 500
  · go_enter Tryd.func8, Tryd.ntmps8
    go_wp2_with (go_at_call 13; refine (l00In_any _ _ _ _).mono ?_; rintro e w' ⟨rfl, rfl⟩)
    go_ret
    exact ⟨ret_bool (by rw [hx.out, h1, h2]; rfl), rfl⟩
  cases h3 : inB c 1 10000
  · go_enter Tryd.func8, Tryd.ntmps8
    go_wp2_with (go_at_call 13; refine (l00In_any _ _ _ _).mono ?_; rintro e w' ⟨rfl, rfl⟩)
    go_ret
    exact ⟨ret_bool (by rw [hx.out, h1, h2, h3]; rfl), rfl⟩
  cases h4 : inB d 1 500000
  · go_enter Tryd.func8, Tryd.ntmps8
    go_wp2_with (go_at_call 13; refine (l00In_any _ _ _ _).mono ?_; rintro e w' ⟨rfl, rfl⟩)
    go_ret
    exact ⟨ret_bool (by rw [hx.out, h1, h2, h3, h4]; rfl), rfl⟩
  go_enter Tryd.func8, Tryd.ntmps8
  go_wp2_with (go_at_call 13; refine (l00In_any _ _ _ _).mono ?_; rintro e w' ⟨rfl, rfl⟩)
  go_ret
  exact ⟨ret_bool (by rw [hx.out, h1, h2, h3, h4]; rfl), rfl⟩
theorem crd_bd {a b c d : Int} (h : crdB ⟨a, b, c, d⟩ = true) : (1 ≤ a ∧ a ≤ 10000) ∧ (1 ≤ b ∧ b ≤ 500) ∧ (1 ≤ c ∧ c ≤ 10000) ∧ (1 ≤ d ∧ d ≤ 500000) := by
  unfold crdB at h
  simp only [Bool.and_eq_true, inB_iff] at h
  exact ⟨h.1.1.1, h.1.1.2, h.1.2, h.2⟩
/-- four times the squares and the mass -/
def prdV (a b c : Int) : Int := 4 * a * a * b * b * c
/-- the force in a string -/
def tenV (a b c : Int) : Int := rnd (prdV a b c) 100000000000
structure PrdF (a b c : Int) : Prop where
  e1 : IntKind.i64.wrap (4 * a) = 4 * a
  e2 : IntKind.i64.wrap (4 * a * a) = 4 * a * a
  e3 : IntKind.i64.wrap (4 * a * a * b) = 4 * a * a * b
  e4 : IntKind.i64.wrap (4 * a * a * b * b) = 4 * a * a * b * b
  e5 : IntKind.i64.wrap (4 * a * a * b * b * c) = 4 * a * a * b * b * c
  lo : 0 ≤ 4 * a * a * b * b * c
  hi : 4 * a * a * b * b * c ≤ 1000000000000000000
theorem prdF {a b c : Int} (ha : 1 ≤ a ∧ a ≤ 10000) (hb : 1 ≤ b ∧ b ≤ 500) (hc : 1 ≤ c ∧ c ≤ 10000) : PrdF a b c := by
  have p1 : 0 ≤ 4 * a ∧ 4 * a ≤ 40000 := by omega
  have p2 := mulP_bd (a := 4 * a) (b := a) (A := 40000) (B := 10000) p1 (by omega)
  have p3 := mulP_bd (a := 4 * a * a) (b := b) (A := 40000 * 10000) (B := 500) p2 (by omega)
  have p4 := mulP_bd (a := 4 * a * a * b) (b := b) (A := 40000 * 10000 * 500) (B := 500) p3 (by omega)
  have p5 := mulP_bd (a := 4 * a * a * b * b) (b := c) (A := 40000 * 10000 * 500 * 500) (B := 10000) p4 (by omega)
  exact ⟨IntWalk.i64_in _ (by omega), IntWalk.i64_in _ (by omega), IntWalk.i64_in _ (by omega), IntWalk.i64_in _ (by omega), IntWalk.i64_in _ (by omega), p5.1, by omega⟩
theorem rndT_bd {p : Int} (h0 : 0 ≤ p) (h1 : p ≤ 1000000000000000000) : 0 ≤ rnd p 100000000000 ∧ rnd p 100000000000 ≤ 10000000 := by
  unfold rnd
  rw [if_neg (by omega), if_neg (by omega), rp_pos h0]
  omega
theorem ten_bd {a b c : Int} (ha : 1 ≤ a ∧ a ≤ 10000) (hb : 1 ≤ b ∧ b ≤ 500) (hc : 1 ≤ c ∧ c ≤ 10000) : 0 ≤ tenV a b c ∧ tenV a b c ≤ 10000000 := rndT_bd (prdF ha hb hc).lo (prdF ha hb hc).hi
end Go.Proofs.YtnenccfmopjcjaaDoor
