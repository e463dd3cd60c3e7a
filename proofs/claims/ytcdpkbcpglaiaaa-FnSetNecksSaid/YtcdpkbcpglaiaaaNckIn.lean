/-
  Necks: validity of one, by value and by a pointer.
-/
import Derived.Test.YtcdpkbcpglaiaaaNck
import Derived.Test.YtcdpkbcpglaiaaaMul
import Derived.Test.YtcdpkbcpglaiaaaCore2
namespace Go.Proofs.Ytcdpkbcpglaiaaa
open Go.ChangeShapes Go.WideShapes Go.ChangeAt Go.RowKit Go.Deep
set_option linter.unusedVariables false
set_option linter.unusedSimpArgs false
set_option maxRecDepth 1000000
/-- a neck is valid -/
def nckB (x : Nck) : Bool := inB x.stp 100 10000 && inB x.bod 100 10000 && inB x.ovr 0 500 && inB x.ang 0 300
theorem isNeckLength_any (n : Int) (w : World) : Calls Try.prog 33 #[.int .i64 n] w fun e w' => e = .returned (.bool (inB n 100 10000)) ∧ w = w' := by
  go_enter Try.func33, Try.ntmps33
  go_wp2_with (go_at_call 24; refine (within64_any _ _ _ _).mono ?_; rintro e w' ⟨rfl, rfl⟩)
  go_ret
  exact ⟨rfl, rfl⟩
theorem isNeckHeight_any (n : Int) (w : World) : Calls Try.prog 23 #[.int .i64 n] w fun e w' => e = .returned (.bool (inB n 0 2000)) ∧ w = w' := by
  go_enter Try.func23, Try.ntmps23
  go_wp2_with (go_at_call 24; refine (within64_any _ _ _ _).mono ?_; rintro e w' ⟨rfl, rfl⟩)
  go_ret
  exact ⟨rfl, rfl⟩
theorem l10Size_any (n : Int) (w : World) : Calls Try.prog 37 #[.int .i64 n] w fun e w' => e = .returned (.bool (inB n 100 10000)) ∧ w = w' := by
  go_enter Try.func37, Try.ntmps37
  go_wp2_with (go_at_call 38; refine (l00In_any _ _ _ _).mono ?_; rintro e w' ⟨rfl, rfl⟩)
  go_ret
  exact ⟨rfl, rfl⟩
set_option maxHeartbeats 1000000 in
theorem implValidNeck_any (a : Int) (b : Int) (c : Int) (d : Int)  (w : World) : Calls Try.prog 18 #[.agg #[.int .i64 a, .int .i64 b, .int .i64 c, .int .i64 d]] w fun e w' => e = .returned (.bool (nckB ⟨a, b, c, d⟩)) ∧ Below w.heap.size w w' := by
  have hx : Hid (nckB ⟨a, b, c, d⟩ = (inB a 100 10000 && inB b 100 10000 && inB c 0 500 && inB d 0 300)) := Lib.hid rfl
  cases h1 : inB a 100 10000
  · go_enter Try.func18, Try.ntmps18
    go_wp2_with (first
          | (go_at_call 33; refine (isNeckLength_any _ _).mono ?_; rintro e w' ⟨rfl, rfl⟩)
          | (go_at_call 24; refine (within64_any _ _ _ _).mono ?_; rintro e w' ⟨rfl, rfl⟩))
    go_ret
    exact ⟨ret_bool (by rw [hx.out, h1]; rfl), (Below.refl _ _).alloc (Nat.le_refl _) _⟩
  cases h2 : inB b 100 10000
  · go_enter Try.func18, Try.ntmps18
    go_wp2_with (first
          | (go_at_call 33; refine (isNeckLength_any _ _).mono ?_; rintro e w' ⟨rfl, rfl⟩)
          | (go_at_call 24; refine (within64_any _ _ _ _).mono ?_; rintro e w' ⟨rfl, rfl⟩))
    go_ret
    exact ⟨ret_bool (by rw [hx.out, h1, h2]; rfl), (Below.refl _ _).alloc (Nat.le_refl _) _⟩
  cases h3 : inB c 0 500
  · go_enter Try.func18, Try.ntmps18
    go_wp2_with (first
          | (go_at_call 33; refine (isNeckLength_any _ _).mono ?_; rintro e w' ⟨rfl, rfl⟩)
          | (go_at_call 24; refine (within64_any _ _ _ _).mono ?_; rintro e w' ⟨rfl, rfl⟩))
    go_ret
    exact ⟨ret_bool (by rw [hx.out, h1, h2, h3]; rfl), (Below.refl _ _).alloc (Nat.le_refl _) _⟩
  cases h4 : inB d 0 300
  · go_enter Try.func18, Try.ntmps18
    go_wp2_with (first
          | (go_at_call 33; refine (isNeckLength_any _ _).mono ?_; rintro e w' ⟨rfl, rfl⟩)
          | (go_at_call 24; refine (within64_any _ _ _ _).mono ?_; rintro e w' ⟨rfl, rfl⟩))
    go_ret
    exact ⟨ret_bool (by rw [hx.out, h1, h2, h3, h4]; rfl), (Below.refl _ _).alloc (Nat.le_refl _) _⟩
  go_enter Try.func18, Try.ntmps18
  go_wp2_with (first
        | (go_at_call 33; refine (isNeckLength_any _ _).mono ?_; rintro e w' ⟨rfl, rfl⟩)
        | (go_at_call 24; refine (within64_any _ _ _ _).mono ?_; rintro e w' ⟨rfl, rfl⟩))
  go_ret
  exact ⟨ret_bool (by rw [hx.out, h1, h2, h3, h4]; rfl), (Below.refl _ _).alloc (Nat.le_refl _) _⟩
set_option maxHeartbeats 1000000 in
theorem l10Ok_any (a : Int) (b : Int) (c : Int) (d : Int)  (w : World) (g o : Nat) (hat : NckAt w g o ⟨a, b, c, d⟩) : Calls Try.prog 27 #[.pointer (some ⟨g, o, none⟩)] w fun e w' => e = .returned (.bool (nckB ⟨a, b, c, d⟩)) ∧ w = w' := by
  have hx : Hid (nckB ⟨a, b, c, d⟩ = (inB a 100 10000 && inB b 100 10000 && inB c 0 500 && inB d 0 300)) := Lib.hid rfl
  obtain ⟨c0, c1, c2, c3⟩ := hat
  simp only at c0 c1 c2 c3
  cases h1 : inB a 100 10000
  · go_enter Try.func27, Try.ntmps27
    go_wp2_with (first
          | (go_at_call 37; refine (l10Size_any _ _).mono ?_; rintro e w' ⟨rfl, rfl⟩)
          | (go_at_call 38; refine (l00In_any _ _ _ _).mono ?_; rintro e w' ⟨rfl, rfl⟩))
    go_ret
    exact ⟨ret_bool (by rw [hx.out, h1]; rfl), rfl⟩
  cases h2 : inB b 100 10000
  · go_enter Try.func27, Try.ntmps27
    go_wp2_with (first
          | (go_at_call 37; refine (l10Size_any _ _).mono ?_; rintro e w' ⟨rfl, rfl⟩)
          | (go_at_call 38; refine (l00In_any _ _ _ _).mono ?_; rintro e w' ⟨rfl, rfl⟩))
    go_ret
    exact ⟨ret_bool (by rw [hx.out, h1, h2]; rfl), rfl⟩
  cases h3 : inB c 0 500
  · go_enter Try.func27, Try.ntmps27
    go_wp2_with (first
          | (go_at_call 37; refine (l10Size_any _ _).mono ?_; rintro e w' ⟨rfl, rfl⟩)
          | (go_at_call 38; refine (l00In_any _ _ _ _).mono ?_; rintro e w' ⟨rfl, rfl⟩))
    go_ret
    exact ⟨ret_bool (by rw [hx.out, h1, h2, h3]; rfl), rfl⟩
  cases h4 : inB d 0 300
  · go_enter Try.func27, Try.ntmps27
    go_wp2_with (first
          | (go_at_call 37; refine (l10Size_any _ _).mono ?_; rintro e w' ⟨rfl, rfl⟩)
          | (go_at_call 38; refine (l00In_any _ _ _ _).mono ?_; rintro e w' ⟨rfl, rfl⟩))
    go_ret
    exact ⟨ret_bool (by rw [hx.out, h1, h2, h3, h4]; rfl), rfl⟩
  go_enter Try.func27, Try.ntmps27
  go_wp2_with (first
        | (go_at_call 37; refine (l10Size_any _ _).mono ?_; rintro e w' ⟨rfl, rfl⟩)
        | (go_at_call 38; refine (l00In_any _ _ _ _).mono ?_; rintro e w' ⟨rfl, rfl⟩))
  go_ret
  exact ⟨ret_bool (by rw [hx.out, h1, h2, h3, h4]; rfl), rfl⟩
theorem nck_bd {a b c d : Int} (h : nckB ⟨a, b, c, d⟩ = true) : (100 ≤ a ∧ a ≤ 10000) ∧ (100 ≤ b ∧ b ≤ 10000) ∧ (0 ≤ c ∧ c ≤ 500) ∧ (0 ≤ d ∧ d ≤ 300) := by
  unfold nckB at h
  simp only [Bool.and_eq_true, inB_iff] at h
  exact ⟨h.1.1.1, h.1.1.2, h.1.2, h.2⟩
theorem rnd1000_bd {p M : Int} (h0 : 0 ≤ p) (h1 : p ≤ 1000 * M) : 0 ≤ rnd p 1000 ∧ rnd p 1000 ≤ M := by
  unfold rnd
  rw [if_neg (by omega), if_neg (by omega), rp_pos h0]
  omega
/-- how high the line of a neck is at the bridge -/
def prjV (b c d : Int) : Int := c + rnd (b * d) 1000
theorem prj_bd {b c d : Int} (hb : 100 ≤ b ∧ b ≤ 10000) (hc : 0 ≤ c ∧ c ≤ 500) (hd : 0 ≤ d ∧ d ≤ 300000) : 0 ≤ prjV b c d ∧ prjV b c d ≤ 3000500 ∧ 0 ≤ b * d ∧ b * d ≤ 3000000000 := by
  have p := mulP_bd (a := b) (b := d) (A := 10000) (B := 300000) (by omega) hd
  have q := rnd1000_bd (p := b * d) (M := 3000000) p.1 (by omega)
  unfold prjV
  omega
theorem one_box (w : World) (cs : Array Value) (T : TypeId) : (∀ i v, cs[i]? = some v → (w.alloc (.cells cs T)).cell? ⟨w.heap.size, i, none⟩ = some v) ∧ Below w.heap.size w (w.alloc (.cells cs T)) ∧ w.heap.size < (w.alloc (.cells cs T)).heap.size :=
  ⟨fun i v h => cellB (heap_alloc_new _ _) i v h, (Below.refl _ _).alloc (Nat.le_refl _) _, by simp⟩
theorem nearB_any (a b : Int) (hb : b ≠ 0) (ha0 : -9223372036854775807 ≤ a) (ha1 : a ≤ 9223372036854775807) (hb0 : -9223372036854775808 ≤ b) (hb1 : b ≤ 9223372036854775807) (w : World) : Calls Try.prog 36 #[.int .i64 a, .int .i64 b] w fun e w' => e = .returned (.int .i64 (rnd a b)) ∧ Below w.heap.size w w' :=
  (nearest_any a b hb ha0 ha1 hb0 hb1 w).mono (by rintro e w' ⟨rfl, n, rfl⟩; exact ⟨rfl, belowN (Below.refl _ _) n⟩)
end Go.Proofs.Ytcdpkbcpglaiaaa
