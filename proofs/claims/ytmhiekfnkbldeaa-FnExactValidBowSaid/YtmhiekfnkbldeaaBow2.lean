/-
  Bows: mass, balance, inertia, the heaviest part, by value.
-/
import Derived.Test.YtmhiekfnkbldeaaBow
import Derived.Test.YtmhiekfnkbldeaaFg
namespace Go.Proofs.Ytmhiekfnkbldeaa
open Go.ChangeShapes Go.WideShapes Go.ChangeAt Go.RowKit Go.Deep
set_option linter.unusedVariables false
set_option linter.unusedSimpArgs false
set_option maxRecDepth 1000000
theorem nearD_any (a b : Int) (hb : b ≠ 0) (ha0 : -4000000000000000000 ≤ a) (ha1 : a ≤ 4000000000000000000) (hb0 : -1000000000000000000 ≤ b) (hb1 : b ≤ 1000000000000000000) (w : World) : Calls Try.prog 43 #[.int .i64 a, .int .i64 b] w fun e w' => e = .returned (.int .i64 (rnd a b)) ∧ Below w.heap.size w w' :=
  (nearest_any a b hb (by omega) (by omega) (by omega) (by omega) w).mono (by rintro e w' ⟨rfl, n, rfl⟩; exact ⟨rfl, belowN (Below.refl _ _) n⟩)
/-- a bow by value, its sums by name -/
theorem bowOf_num (v : Value) (Z : List Prt) (m q : Int) (w : World) (hlo : bowOk Z) (hv : PrtsAt w v Z) (hm : m = sumF (masF Z) Z.length) (hq : q = sumF (momF Z) Z.length) : Calls Try.prog 40 #[v] w fun e w' => e = .returned (.agg #[.int .i64 m, .int .i64 q, v]) ∧ Below w.heap.size w w' := by
  subst hm hq
  exact bowOf_any v Z w hlo hv
def cd3 (b1 b2 : Bool) (c : Int) : Int := if b1 = true then (if b2 = true then c else 2) else 1
set_option maxHeartbeats 1600000 in
theorem implBowMass_any (v : Value) (Z : List Prt) (w : World) (hn : Z.length ≤ 1048576) (hv : PrtsAt w v Z) : Calls Try.prog 17 #[v] w fun e w' => e = .returned (.tuple #[.int .i64 (pick (bowB Z) (sumF (masF Z) Z.length)), .int .i64 (code (bowB Z) 1)]) ∧ Below w.heap.size w w' := by
  have cV := implValidBow_any v Z w hn hv
  cases h1 : bowB Z <;> rw [h1] at cV <;> replace cV := Lib.hid cV
  · go_enter Try.func17, Try.ntmps17
    go_wp2_with (go_at_call 14; (with_reducible refine cV.out.mono ?_); rintro e w1 ⟨rfl, b1⟩)
    go_ret2
    exact ⟨ret_int2 rfl rfl, b1⟩
  have hlo := Lib.hid (bow_ok h1)
  have hmb := masS_bd hlo.out (Nat.le_refl Z.length)
  have hqb := momS_bd hlo.out (Nat.le_refl Z.length)
  have h12 := (bow_0 h1).2.1
  have h00 := (bow_0 h1).1
  have hv' := Lib.hid hv
  obtain ⟨m, hm0⟩ : ∃ m, m = sumF (masF Z) Z.length := ⟨_, rfl⟩
  obtain ⟨q, hq0⟩ : ∃ q, q = sumF (momF Z) Z.length := ⟨_, rfl⟩
  rw [← hm0] at hmb
  rw [← hq0] at hqb
  have hm := Lib.hid hm0
  have hq := Lib.hid hq0
  have hmb0 : 1 ≤ m ∧ m ≤ 1200000 := by omega
  have hqb0 : 0 ≤ q ∧ q ≤ 9600000000 := by omega
  obtain ⟨p9, cap9, rfl, hcap9, hids9, hread9⟩ := hv
  clear hm0 hq0 h1 hmb hqb hcap9 hids9 hread9
  have hF1 : ∀ W, (Instr.field 56 (.agg #[.int .i64 m, .int .i64 q, .slice p9 Z.length cap9]) 0).run Try.prog W = .ok (.agg #[.int .i64 m, .int .i64 q]) W := fun _ => by kernel_rfl
  have hF2 : ∀ W, (Instr.field 54 (.agg #[.int .i64 m, .int .i64 q]) 0).run Try.prog W = .ok (.int .i64 m) W := fun _ => by kernel_rfl
  go_enter Try.func17, Try.ntmps17
  go_wp2_with (first
    | (go_at_call 14; (with_reducible refine cV.out.mono ?_); rintro e w1 ⟨rfl, b1⟩)
    | (go_at_call 40; (with_reducible refine (bowOf_num _ Z m q _ hlo.out (hv'.out.below b1) hm.out hq.out).mono ?_); rintro e w2 ⟨rfl, b2⟩))
  go_ret2
  exact ⟨ret_int2 hm.out rfl, below2 b1 b2⟩
set_option maxHeartbeats 1600000 in
theorem implBalanceOf_any (v : Value) (Z : List Prt) (w : World) (hn : Z.length ≤ 1048576) (hv : PrtsAt w v Z) : Calls Try.prog 19 #[v] w fun e w' => e = .returned (.tuple #[.int .i64 (pick (bowB Z) (rnd (sumF (momF Z) Z.length) (sumF (masF Z) Z.length))), .int .i64 (code (bowB Z) 1)]) ∧ Below w.heap.size w w' := by
  have cV := implValidBow_any v Z w hn hv
  cases h1 : bowB Z <;> rw [h1] at cV <;> replace cV := Lib.hid cV
  · go_enter Try.func19, Try.ntmps19
    go_wp2_with (go_at_call 14; (with_reducible refine cV.out.mono ?_); rintro e w1 ⟨rfl, b1⟩)
    go_ret2
    exact ⟨ret_int2 rfl rfl, b1⟩
  have hlo := Lib.hid (bow_ok h1)
  have hmb := masS_bd hlo.out (Nat.le_refl Z.length)
  have hqb := momS_bd hlo.out (Nat.le_refl Z.length)
  have h12 := (bow_0 h1).2.1
  have h00 := (bow_0 h1).1
  have hv' := Lib.hid hv
  obtain ⟨m, hm0⟩ : ∃ m, m = sumF (masF Z) Z.length := ⟨_, rfl⟩
  obtain ⟨q, hq0⟩ : ∃ q, q = sumF (momF Z) Z.length := ⟨_, rfl⟩
  rw [← hm0] at hmb
  rw [← hq0] at hqb
  have hm := Lib.hid hm0
  have hq := Lib.hid hq0
  have hmb0 : 1 ≤ m ∧ m ≤ 1200000 := by omega
  have hqb0 : 0 ≤ q ∧ q ≤ 9600000000 := by omega
  obtain ⟨p9, cap9, rfl, hcap9, hids9, hread9⟩ := hv
  clear hm0 hq0 h1 hmb hqb hcap9 hids9 hread9
  have cN := Lib.hid (fun W => nearD_any q m (by omega) (by omega) (by omega) (by omega) (by omega) W)
  go_enter Try.func19, Try.ntmps19
  go_wp2_with (first
    | (go_at_call 14; (with_reducible refine cV.out.mono ?_); rintro e w1 ⟨rfl, b1⟩)
    | (go_at_call 40; (with_reducible refine (bowOf_num _ Z m q _ hlo.out (hv'.out.below b1) hm.out hq.out).mono ?_); rintro e w2 ⟨rfl, b2⟩)
    | (go_at_call 43; (with_reducible refine (cN.out _).mono ?_); rintro e w3 ⟨rfl, b3⟩))
  go_ret2
  exact ⟨ret_int2 (by rw [hm.out, hq.out]; rfl) rfl, below2 ((below2 b1 b2).alloc (below2 b1 b2).size _) b3⟩
set_option maxHeartbeats 1600000 in
theorem specBowMass_any (v : Value) (Z : List Prt) (w : World) (hn : Z.length ≤ 1048576) (hv : PrtsAt w v Z) : Calls Try.prog 16 #[v] w fun e w' => e = .returned (.tuple #[.int .i64 (pick (bowB Z) (sumF (masF Z) Z.length)), .int .i64 (code (bowB Z) 1)]) ∧ Below w.heap.size w w' := by
  have cV := l11Ok_any v Z w hn hv
  cases h1 : bowB Z <;> rw [h1] at cV <;> replace cV := Lib.hid cV
  · go_enter Try.func16, Try.ntmps16
    go_wp2_with (go_at_call 33; (with_reducible refine cV.out.mono ?_); rintro e w1 ⟨rfl, b1⟩)
    go_ret2
    exact ⟨ret_int2 rfl rfl, b1.below⟩
  have hlo := Lib.hid (bow_ok h1)
  have hmb := masS_bd hlo.out (Nat.le_refl Z.length)
  have hqb := momS_bd hlo.out (Nat.le_refl Z.length)
  have h12 := (bow_0 h1).2.1
  have h00 := (bow_0 h1).1
  have hv' := Lib.hid hv
  obtain ⟨m, hm0⟩ : ∃ m, m = sumF (masF Z) Z.length := ⟨_, rfl⟩
  obtain ⟨q, hq0⟩ : ∃ q, q = sumF (momF Z) Z.length := ⟨_, rfl⟩
  rw [← hm0] at hmb
  rw [← hq0] at hqb
  have hm := Lib.hid hm0
  have hq := Lib.hid hq0
  have hmb0 : 1 ≤ m ∧ m ≤ 1200000 := by omega
  have hqb0 : 0 ≤ q ∧ q ≤ 9600000000 := by omega
  obtain ⟨p9, cap9, rfl, hcap9, hids9, hread9⟩ := hv
  clear hm0 hq0 h1 hmb hqb hcap9 hids9 hread9
  go_enter Try.func16, Try.ntmps16
  go_wp2_with (first
    | (go_at_call 33; (with_reducible refine cV.out.mono ?_); rintro e w1 ⟨rfl, b1⟩)
    | (go_at_call 39; (with_reducible refine (l11Mass_any _ Z _ hlo.out (hv'.out.below b1.below)).mono ?_); rw [← hm.out]; rintro e w2 ⟨rfl, b2⟩))
  go_ret2
  exact ⟨ret_int2 hm.out rfl, (b1.trans b2).below⟩
set_option maxHeartbeats 1600000 in
theorem specBalanceOf_any (v : Value) (Z : List Prt) (w : World) (hn : Z.length ≤ 1048576) (hv : PrtsAt w v Z) : Calls Try.prog 18 #[v] w fun e w' => e = .returned (.tuple #[.int .i64 (pick (bowB Z) (rnd (sumF (momF Z) Z.length) (sumF (masF Z) Z.length))), .int .i64 (code (bowB Z) 1)]) ∧ Below w.heap.size w w' := by
  have cV := l11Ok_any v Z w hn hv
  cases h1 : bowB Z <;> rw [h1] at cV <;> replace cV := Lib.hid cV
  · go_enter Try.func18, Try.ntmps18
    go_wp2_with (go_at_call 33; (with_reducible refine cV.out.mono ?_); rintro e w1 ⟨rfl, b1⟩)
    go_ret2
    exact ⟨ret_int2 rfl rfl, b1.below⟩
  have hlo := Lib.hid (bow_ok h1)
  have hmb := masS_bd hlo.out (Nat.le_refl Z.length)
  have hqb := momS_bd hlo.out (Nat.le_refl Z.length)
  have h12 := (bow_0 h1).2.1
  have h00 := (bow_0 h1).1
  have hv' := Lib.hid hv
  obtain ⟨m, hm0⟩ : ∃ m, m = sumF (masF Z) Z.length := ⟨_, rfl⟩
  obtain ⟨q, hq0⟩ : ∃ q, q = sumF (momF Z) Z.length := ⟨_, rfl⟩
  rw [← hm0] at hmb
  rw [← hq0] at hqb
  have hm := Lib.hid hm0
  have hq := Lib.hid hq0
  have hmb0 : 1 ≤ m ∧ m ≤ 1200000 := by omega
  have hqb0 : 0 ≤ q ∧ q ≤ 9600000000 := by omega
  obtain ⟨p9, cap9, rfl, hcap9, hids9, hread9⟩ := hv
  clear hm0 hq0 h1 hmb hqb hcap9 hids9 hread9
  have cQ := Lib.hid (fun W (hd : DrewOf w W) => l11Moment_any _ Z W hlo.out (hv'.out.below hd.below))
  have cM := Lib.hid (fun W (hd : DrewOf w W) => l11Mass_any _ Z W hlo.out (hv'.out.below hd.below))
  have cN := Lib.hid (fun W => l01Div_any q m (by omega) (by omega) (by omega) (by omega) (by omega) W)
  go_enter Try.func18, Try.ntmps18
  go_wp2_with (first
    | (go_at_call 33; (with_reducible refine cV.out.mono ?_); rintro e w1 ⟨rfl, b1⟩)
    | (go_at_call 42; (with_reducible refine (cQ.out _ b1).mono ?_); rw [← hq.out]; rintro e w2 ⟨rfl, b2⟩)
    | (go_at_call 39; (with_reducible refine (cM.out _ (b1.trans b2)).mono ?_); rw [← hm.out]; rintro e w3 ⟨rfl, b3⟩)
    | (go_at_call 41; (with_reducible refine (cN.out _).mono ?_); rintro e w4 ⟨rfl, rfl⟩))
  go_ret2
  exact ⟨ret_int2 (by rw [hm.out, hq.out]; rfl) rfl, ((b1.trans b2).trans b3).below⟩
end Go.Proofs.Ytmhiekfnkbldeaa
