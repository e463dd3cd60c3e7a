/-
  Heights of a stick: depths, bends, CamberOf, CamberGap.
-/
import Derived.Test.YtjnpladpegmiiaaStick
namespace Go.Proofs.Ytjnpladpegmiiaa
open Go.ChangeShapes Go.WideShapes Go.ChangeAt Go.RowKit Go.Deep
set_option linter.unusedVariables false
set_option linter.unusedSimpArgs false
set_option maxRecDepth 1000000
def dpV (f : Nat → Int) (L k : Nat) : Int := f 0 * ((L : Int) - k) + f L * k - f k * (L : Int)
def bnD (f : Nat → Int) (k : Nat) : Int := f k + f (k + 2) - 2 * f (k + 1)
def bnV (f : Nat → Int) (k : Nat) : Int := max (bnD f k) (-(bnD f k))
theorem ret_int3 {a b c d e f : Int} (h1 : a = d) (h2 : b = e) (h3 : c = f) : Ending.returned (.tuple #[.int .i64 a, .int .i64 b, .int .i64 c]) = .returned (.tuple #[.int .i64 d, .int .i64 e, .int .i64 f]) := by rw [h1, h2, h3]
theorem dp_bd {f : Nat → Int} {L k : Nat} (hL : 2 ≤ L ∧ L ≤ 63) (hk : k ≤ L) (hb : ∀ i, i ≤ L → -8000 ≤ f i ∧ f i ≤ 8000) : (-512000 ≤ f 0 * ((L : Int) - k) ∧ f 0 * ((L : Int) - k) ≤ 512000) ∧ (-512000 ≤ f L * k ∧ f L * k ≤ 512000) ∧ (-512000 ≤ f k * (L : Int) ∧ f k * (L : Int) ≤ 512000) :=
  ⟨mulS_bd (hb 0 (by omega)) (by omega), mulS_bd (hb L (by omega)) (by omega), mulS_bd (hb k hk) (by omega)⟩
theorem bn_bd {f : Nat → Int} {L k : Nat} (hk : k + 2 ≤ L) (hb : ∀ i, i ≤ L → -8000 ≤ f i ∧ f i ≤ 8000) : -32000 ≤ bnD f k ∧ bnD f k ≤ 32000 ∧ 0 ≤ bnV f k ∧ bnV f k ≤ 32000 := by
  have h1 := hb k (by omega)
  have h2 := hb (k + 1) (by omega)
  have h3 := hb (k + 2) (by omega)
  unfold bnV bnD
  omega
theorem steps_any (a : Option Addr) (L cap : Nat) (hL : L ≤ 63) (w : World) : Calls Try.prog 74 #[.slice a (L + 1) cap] w fun e w' => e = .returned (.int .i64 (L : Int)) ∧ w = w' := by
  have e1 : IntKind.i64.wrap ((L : Int) + 1 - 1) = (L : Int) := by rw [show (L : Int) + 1 - 1 = (L : Int) by omega]; exact IntWalk.i64_in _ (by omega)
  go_enter Try.func74, Try.ntmps74
  go_wp2
  go_ret
  exact ⟨ret_int (by omega), rfl⟩
set_option maxHeartbeats 3200000 in
theorem depth_any (g o cap L : Nat) (f : Nat → Int) (k : Nat) (w : World) (hL : 2 ≤ L ∧ L ≤ 63) (hk : k ≤ L) (hb : ∀ i, i ≤ L → -8000 ≤ f i ∧ f i ≤ 8000) (hc : ∀ i, i ≤ L → w.cell? ⟨g, o + i, none⟩ = some (.int .i64 (f i))) : Calls Try.prog 75 #[.slice (some ⟨g, o, none⟩) (L + 1) cap, .int .i64 (k : Int)] w fun e w' => e = .returned (.int .i64 (dpV f L k)) ∧ Below w.heap.size w w' := by
  have hd := dp_bd hL hk hb
  have hV : Hid (f 0 * ((L : Int) - k) + f L * k - f k * (L : Int) = dpV f L k) := Lib.hid rfl
  have hkI : (k : Int) < (L : Int) + 1 := by omega
  have hLI : (L : Int) < (L : Int) + 1 := by omega
  have h0I : (0 : Int) < (L : Int) + 1 := by omega
  have c0 : w.cell? ⟨g, o, none⟩ = some (.int .i64 (f 0)) := hc 0 (by omega)
  have cL := hc L (by omega)
  have ck := hc k hk
  obtain ⟨x, hx⟩ : ∃ x, x = f 0 := ⟨_, rfl⟩
  obtain ⟨y, hy⟩ : ∃ y, y = f L := ⟨_, rfl⟩
  obtain ⟨z, hz⟩ : ∃ z, z = f k := ⟨_, rfl⟩
  rw [← hx] at c0 hd hV
  rw [← hy] at cL hd hV
  rw [← hz] at ck hd hV
  have e1 : IntKind.i64.wrap ((L : Int) - k) = (L : Int) - k := IntWalk.i64_in _ (by omega)
  have e2 : IntKind.i64.wrap (x * ((L : Int) - k)) = x * ((L : Int) - k) := IntWalk.i64_in _ (by omega)
  have e3 : IntKind.i64.wrap (y * (k : Int)) = y * (k : Int) := IntWalk.i64_in _ (by omega)
  have e4 : IntKind.i64.wrap (z * (L : Int)) = z * (L : Int) := IntWalk.i64_in _ (by omega)
  have e5 : IntKind.i64.wrap (x * ((L : Int) - k) + y * (k : Int)) = x * ((L : Int) - k) + y * (k : Int) := IntWalk.i64_in _ (by omega)
  have e6 : IntKind.i64.wrap (x * ((L : Int) - k) + y * (k : Int) - z * (L : Int)) = x * ((L : Int) - k) + y * (k : Int) - z * (L : Int) := IntWalk.i64_in _ (by omega)
  have cS := Lib.hid (fun W => steps_any (some ⟨g, o, none⟩) L cap hL.2 W)
  clear hx hy hz hc hb hd
  go_enter Try.func75, Try.ntmps75
  go_wp2
  go_quiet ((go_at_call 74; (with_reducible exact Qs (cS.out _))))
  go_wp2
  have ck1 : (w.drewN nq).cell? ⟨g, o + k, none⟩ = some (.int .i64 z) := ck
  have hbq : Below w.heap.size w (w.drewN nq) := belowN (Below.refl _ _) nq
  generalize w.drewN nq = W1 at ck1 hbq ⊢
  clear ck cL c0
  go_quiet ((go_at_call 74; (with_reducible exact Qs (cS.out _))))
  go_wp2
  go_ret
  exact ⟨ret_int hV.out, belowN hbq _⟩
set_option maxHeartbeats 3200000 in
theorem l11Depth_any (g o cap L : Nat) (f : Nat → Int) (k : Nat) (w : World) (hL : 2 ≤ L ∧ L ≤ 63) (hk : k ≤ L) (hb : ∀ i, i ≤ L → -8000 ≤ f i ∧ f i ≤ 8000) (hc : ∀ i, i ≤ L → w.cell? ⟨g, o + i, none⟩ = some (.int .i64 (f i))) : Calls Try.prog 72 #[.slice (some ⟨g, o, none⟩) (L + 1) cap, .int .i64 (k : Int)] w fun e w' => e = .returned (.int .i64 (dpV f L k)) ∧ DrewOf w w' := by
  have hd := dp_bd hL hk hb
  have hV : Hid (f 0 * ((L : Int) - k) + f L * k - (L : Int) * f k = dpV f L k) := Lib.hid (by rw [Int.mul_comm (L : Int)]; rfl)
  have hkI : (k : Int) < (L : Int) + 1 := by omega
  have hLI : (L : Int) < (L : Int) + 1 := by omega
  have h0I : (0 : Int) < (L : Int) + 1 := by omega
  have c0 : w.cell? ⟨g, o, none⟩ = some (.int .i64 (f 0)) := hc 0 (by omega)
  have cL := hc L (by omega)
  have ck := hc k hk
  have hd2 := hd.2.2
  rw [Int.mul_comm] at hd2
  obtain ⟨x, hx⟩ : ∃ x, x = f 0 := ⟨_, rfl⟩
  obtain ⟨y, hy⟩ : ∃ y, y = f L := ⟨_, rfl⟩
  obtain ⟨z, hz⟩ : ∃ z, z = f k := ⟨_, rfl⟩
  rw [← hx] at c0 hd hV
  rw [← hy] at cL hd hV
  rw [← hz] at ck hV hd2
  have e0 : IntKind.i64.wrap ((L : Int) + 1 - 1) = (L : Int) := by rw [show (L : Int) + 1 - 1 = (L : Int) by omega]; exact IntWalk.i64_in _ (by omega)
  have e1 : IntKind.i64.wrap ((L : Int) - k) = (L : Int) - k := IntWalk.i64_in _ (by omega)
  have e2 : IntKind.i64.wrap (x * ((L : Int) - k)) = x * ((L : Int) - k) := IntWalk.i64_in _ (by omega)
  have e3 : IntKind.i64.wrap (y * (k : Int)) = y * (k : Int) := IntWalk.i64_in _ (by omega)
  have e4 : IntKind.i64.wrap ((L : Int) * z) = (L : Int) * z := IntWalk.i64_in _ (by omega)
  have e5 : IntKind.i64.wrap (x * ((L : Int) - k) + y * (k : Int)) = x * ((L : Int) - k) + y * (k : Int) := IntWalk.i64_in _ (by omega)
  have e6 : IntKind.i64.wrap (x * ((L : Int) - k) + y * (k : Int) - (L : Int) * z) = x * ((L : Int) - k) + y * (k : Int) - (L : Int) * z := IntWalk.i64_in _ (by omega)
  clear hx hy hz hc hb hd hd2
  go_enter Try.func72, Try.ntmps72
  go_wp2
  go_quiet (fail)
  go_wp2
  go_ret
  exact ⟨ret_int hV.out, _, rfl⟩
theorem dist9_any (p q : Int) (h0 : -1000000 ≤ p) (h1 : p ≤ 1000000) (h2 : -1000000 ≤ q) (h3 : q ≤ 1000000) (w : World) : Calls Try.prog 91 #[.int .i64 p, .int .i64 q] w fun e w' => e = .returned (.int .i64 (max (p - q) (q - p))) ∧ w = w' := by
  have e1 : IntKind.i64.wrap (p - q) = p - q := IntWalk.i64_in _ (by omega)
  have e2 : IntKind.i64.wrap (q - p) = q - p := IntWalk.i64_in _ (by omega)
  go_enter Try.func91, Try.ntmps91
  go_wp2
  all_goals go_ret
  all_goals exact ⟨ret_int (by omega), rfl⟩
theorem max9_any (p q : Int) (w : World) : Calls Try.prog 77 #[.int .i64 p, .int .i64 q] w fun e w' => e = .returned (.int .i64 (max p q)) ∧ w = w' := by
  by_cases h : q < p
  all_goals
    go_enter Try.func77, Try.ntmps77
    go_wp2
    go_ret
    exact ⟨ret_int (by omega), rfl⟩
set_option maxHeartbeats 3200000 in
theorem bend_any (g o cap L : Nat) (f : Nat → Int) (k : Nat) (w : World) (hL : 2 ≤ L ∧ L ≤ 63) (hk : k + 2 ≤ L) (hb : ∀ i, i ≤ L → -8000 ≤ f i ∧ f i ≤ 8000) (hc : ∀ i, i ≤ L → w.cell? ⟨g, o + i, none⟩ = some (.int .i64 (f i))) : Calls Try.prog 79 #[.slice (some ⟨g, o, none⟩) (L + 1) cap, .int .i64 ((k : Int) + 1)] w fun e w' => e = .returned (.int .i64 (bnV f k)) ∧ Below w.heap.size w w' := by
  have hV : Hid (max (f k + f (k + 2) - 2 * f (k + 1)) (2 * f (k + 1) - (f k + f (k + 2))) = bnV f k) := Lib.hid (by unfold bnV bnD; omega)
  have b0 := hb k (by omega)
  have b1 := hb (k + 1) (by omega)
  have b2 := hb (k + 2) (by omega)
  have c0 := hc k (by omega)
  have c1 := hc (k + 1) (by omega)
  have c2 := hc (k + 2) (by omega)
  have h0I : (k : Int) < (L : Int) + 1 := by omega
  have h1I : (k : Int) + 1 < (L : Int) + 1 := by omega
  have h2I : (k : Int) + 2 < (L : Int) + 1 := by omega
  obtain ⟨x, hx⟩ : ∃ x, x = f k := ⟨_, rfl⟩
  obtain ⟨y, hy⟩ : ∃ y, y = f (k + 1) := ⟨_, rfl⟩
  obtain ⟨z, hz⟩ : ∃ z, z = f (k + 2) := ⟨_, rfl⟩
  rw [← hx] at c0 b0 hV
  rw [← hy] at c1 b1 hV
  rw [← hz] at c2 b2 hV
  have e1 : IntKind.i64.wrap ((k : Int) + 1 - 1) = (k : Int) := by rw [show (k : Int) + 1 - 1 = (k : Int) by omega]; exact IntWalk.i64_in _ (by omega)
  have e2 : IntKind.i64.wrap ((k : Int) + 1 + 1) = (k : Int) + 2 := by rw [show (k : Int) + 1 + 1 = (k : Int) + 2 by omega]; exact IntWalk.i64_in _ (by omega)
  have e3 : IntKind.i64.wrap (x + z) = x + z := IntWalk.i64_in _ (by omega)
  have e4 : IntKind.i64.wrap (2 * y) = 2 * y := IntWalk.i64_in _ (by omega)
  have cD := Lib.hid (fun W => dist9_any (x + z) (2 * y) (by omega) (by omega) (by omega) (by omega) W)
  clear hx hy hz hc hb
  go_enter Try.func79, Try.ntmps79
  go_wp2
  go_quiet ((go_at_call 91; (with_reducible exact Qs (cD.out _))))
  go_wp2
  go_ret
  exact ⟨ret_int hV.out, belowN (Below.refl _ _) _⟩
end Go.Proofs.Ytjnpladpegmiiaa
