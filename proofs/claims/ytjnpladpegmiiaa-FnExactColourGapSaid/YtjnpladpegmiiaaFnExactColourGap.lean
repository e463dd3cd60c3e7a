/-
  The law FnExactColourGap holds for every input: the function answers as its model; conditions: none beside the row's own.
-/
import Derived.Test.YtjnpladpegmiiaaColG
import Derived.Lib.Hide
import Derived.Test.YtjnpladpegmiiaaRows
import Derived.WalkKit
import Derived.ProofKit
import Derived.OpenShut
import Derived.ShutString
import Derived.ChangeOld
import Derived.Below
namespace Go.Proofs.Ytjnpladpegmiiaa.fnExactColourGap
open Go.ChangeShapes Go.WideShapes Go.ChangeAt Go.RowKit
open Go.ChangeMaps (open_string shut_string)
set_option linter.unusedVariables false

theorem own : ownKnob Try.prog.godebug = none := by kernel_rfl
theorem laidOut : laidOutB Try.prog = true := by kernel_rfl

/-- WHAT THE WALK IS TOLD OF A SLICE OF INTEGERS THAT CAME IN: it is nil; or it leads to a row of 'cap' cells, the numbers 'zs' (the first 'len' are its elements, the rest its spare room), each fitting its kind. -/
def IsRow (k : IntKind) (w : World) (a : Option Addr) (len cap : Nat) (zs : List Int) : Prop :=
  (a = none ∧ len = 0 ∧ cap = 0 ∧ zs = []) ∨
  ∃ x, a = some x ∧ len ≤ cap ∧ cap ≤ maxLen ∧ zs.length = cap ∧ (∀ i, i < zs.length → w.cell? (x.add i) = some (.int k (zs.getD i 0))) ∧ ∀ n ∈ zs, (Lit.int k n).wf = true

/-! ### STEP 1: THE WALK: the Go text returns true, AND WRITES NOTHING THAT WAS THERE: 'Below w.heap.size w w'' (Derived/Below.lean: '.refl', '.alloc', '.drew', '.setCell' at a new block, '.trans'). Open each 'IsRow' by 'rcases' AHEAD of 'go_enter'; part every test ahead of the walk. -/
set_option maxHeartbeats 1000000 in
theorem walk (a0 : Option Addr) (len0 cap0 : Nat) (z0 : List Int) (a1 : Option Addr) (len1 cap1 : Nat) (z1 : List Int) (w : World) (w0 : IsRow .i64 w a0 len0 cap0 z0) (w1 : IsRow .i64 w a1 len1 cap1 z1) :
    Calls Try.prog 6 #[.slice a0 len0 cap0, .slice a1 len1 cap1] w fun e w' => e = .returned (.bool true) ∧ Below w.heap.size w w' := by
  obtain ⟨G0, hG0, hl0⟩ := ints_in w0
  have hG0' := Lib.hid hG0
  have hzz0 : Hid (∀ n ∈ G0, inI n) := Lib.hid (by obtain ⟨_, _, _, _, h, _⟩ := hG0; exact h)
  clear hG0 w0
  obtain ⟨G1, hG1, hl1⟩ := ints_in w1
  have hG1' := Lib.hid hG1
  have hzz1 : Hid (∀ n ∈ G1, inI n) := Lib.hid (by obtain ⟨_, _, _, _, h, _⟩ := hG1; exact h)
  clear hG1 w1
  by_cases hL0 : len0 ≤ 1048576
  rotate_left
  · go_enter Try.func6, Try.ntmps6
    go_wp2
    go_ret
    exact ⟨rfl, Below.refl _ _⟩
  by_cases hL1 : len1 ≤ 1048576
  rotate_left
  · go_enter Try.func6, Try.ntmps6
    go_wp2
    go_ret
    exact ⟨rfl, Below.refl _ _⟩
  have hg0 : G0.length ≤ 1048576 := by omega
  have hg1 : G1.length ≤ 1048576 := by omega
  go_enter Try.func6, Try.ntmps6
  have cs := fun V0 V1 W (h0 : IntsAt W V0 G0) (h1 : IntsAt W V1 G1) => specColourGap_any V0 G0 V1 G1 W hg0 h0 hg1 h1
  have ci := fun V0 V1 W (h0 : IntsAt W V0 G0) (h1 : IntsAt W V1 G1) => implColourGap_any V0 G0 V1 G1 W hg0 h0 hg1 h1
  obtain ⟨R0, hR0⟩ : ∃ R0, R0 = gapV G0 G1 := ⟨_, rfl⟩
  rw [← hR0] at cs ci
  clear hR0
  obtain ⟨R1, hR1⟩ : ∃ R1, R1 = gapC G0 G1 := ⟨_, rfl⟩
  rw [← hR1] at cs ci
  clear hR1
  have cs' := Lib.hid cs
  have ci' := Lib.hid ci
  clear cs ci
  go_wp2_with fail
  refine (toInt64S_any _ G0 _ hg0 (hG0'.out.below (Below.refl _ _))).mono ?_
  rintro e u1 ⟨v1, rfl, o1, d1⟩
  have D1 := d1
  have s1 := Lib.hid (d1.size)
  clear d1
  have r1 := ints_own o1 hzz0.out
  clear o1
  go_wp2_with fail
  refine (toInt64S_any _ G1 _ hg1 (hG1'.out.below D1)).mono ?_
  rintro e u2 ⟨v2, rfl, o2, d2⟩
  have D2 := D1.trans (d2.mono D1.size)
  have s2 := Lib.hid (d2.size)
  replace r1 := r1.below d2
  clear D1
  clear d2
  have r2 := ints_own o2 hzz1.out
  clear o2
  go_wp2_with fail
  refine (cs'.out _ _ _ r1 r2).mono ?_
  rintro e u3 ⟨rfl, d3⟩
  have D3 := D2.trans (d3.mono D2.size)
  have s3 := Lib.hid (d3.size)
  replace r1 := r1.below d3
  replace r2 := r2.below d3
  clear D2
  clear d3
  clear r1
  clear r2
  go_wp2_with fail
  refine (toInt64S_any _ G0 _ hg0 (hG0'.out.below D3)).mono ?_
  rintro e u4 ⟨v4, rfl, o4, d4⟩
  have D4 := D3.trans (d4.mono D3.size)
  have s4 := Lib.hid (d4.size)
  clear D3
  clear d4
  have r4 := ints_own o4 hzz0.out
  clear o4
  go_wp2_with fail
  refine (toInt64S_any _ G1 _ hg1 (hG1'.out.below D4)).mono ?_
  rintro e u5 ⟨v5, rfl, o5, d5⟩
  have D5 := D4.trans (d5.mono D4.size)
  have s5 := Lib.hid (d5.size)
  replace r4 := r4.below d5
  clear D4
  clear d5
  have r5 := ints_own o5 hzz1.out
  clear o5
  go_wp2_with fail
  refine (ci'.out _ _ _ r4 r5).mono ?_
  rintro e u6 ⟨rfl, d6⟩
  have D6 := D5.trans (d6.mono D5.size)
  have s6 := Lib.hid (d6.size)
  replace r4 := r4.below d6
  replace r5 := r5.below d6
  clear D5
  clear d6
  go_wp2_with fail
  refine (toInt64S_any _ G0 _ hg0 (hG0'.out.below D6)).mono ?_
  rintro e u7 ⟨v7, rfl, o7, d7⟩
  have D7 := D6.trans (d7.mono D6.size)
  have s7 := Lib.hid (d7.size)
  replace r4 := r4.below d7
  replace r5 := r5.below d7
  clear D6
  clear d7
  have r7 := ints_own o7 hzz0.out
  clear o7
  go_wp2_with fail
  refine (eqInt64S_any _ _ G0 _ (by omega) r4 r7).mono ?_
  rintro e _ ⟨rfl, m8, rfl⟩
  have D8 := belowN D7 m8
  have s8 : Hid (u7.heap.size ≤ u7.heap.size) := Lib.hid (Nat.le_refl _)
  replace r4 := r4.below (belowN (Below.refl _ _) m8)
  replace r5 := r5.below (belowN (Below.refl _ _) m8)
  replace r7 := r7.below (belowN (Below.refl _ _) m8)
  clear D7
  clear r7
  go_wp2_with fail
  refine (toInt64S_any _ G1 _ hg1 (hG1'.out.below D8)).mono ?_
  rintro e u9 ⟨v9, rfl, o9, d9⟩
  have D9 := D8.trans (d9.mono D8.size)
  have s9 := Lib.hid (d9.size)
  replace r4 := r4.below d9
  replace r5 := r5.below d9
  clear D8
  clear d9
  have r9 := ints_own o9 hzz1.out
  clear o9
  go_wp2_with fail
  refine (eqInt64S_any _ _ G1 _ (by omega) r5 r9).mono ?_
  rintro e _ ⟨rfl, m10, rfl⟩
  have D10 := belowN D9 m10
  have s10 : Hid (u9.heap.size ≤ u9.heap.size) := Lib.hid (Nat.le_refl _)
  replace r4 := r4.below (belowN (Below.refl _ _) m10)
  replace r5 := r5.below (belowN (Below.refl _ _) m10)
  replace r9 := r9.below (belowN (Below.refl _ _) m10)
  clear D9
  clear r9
  go_wp2
  go_ret
  exact ⟨rfl, D10⟩


/-! ### THE ROW's STEP: WRITTEN OUT: LEAVE IT -/
set_option maxRecDepth 100000 in
theorem lifted (os : Os) (started : os.Started) (H : Type) (enc : TypeId × Value → H) :
    ReturnsInHanded {} Try.checked os 6 .any (Rows.fnExactColourGapSpec.pre6 enc Try.prog Try.f6 Rows.fnExactColourGapRow.domain false) (Rows.fnExactColourGapSpec.post enc Try.prog Try.f6 false true false false) := by
  refine returnsInHanded_of_change (C := Try.checked) own started (by kernel_rfl) Try.func6
    (ChangeSpec.witness6 (enc := enc) (C := Try.checked) false ⟨#[], #[.slice none 0 0, .slice none 0 0], []⟩ 8 (by kernel_rfl) (by kernel_rfl) (by kernel_rfl) (by kernel_rfl)) ?_
  intro W base args ds gs before hval0 hW hcnd _
  have hval : ∀ (j : Nat) t v, Try.f6.params[j]? = some t → args[j]? = some v → Value.okWide Try.prog W .any base t v := hval0
  have hW' := hW
  obtain ⟨p, q, hA0, hV, rfl, hfz, hnd⟩ := hW
  have hA : DataW.TrodAll enc Try.prog W 0 (fun _ => true) true Try.f6.params.toList args.toList ds p := hA0
  rw [Try.params6] at hA hval
  obtain ⟨v0, vs0, d0, ds0, p0, q0, hargs, rfl, rfl, h0, r0⟩ := trodAll_cons hA
  obtain ⟨v1, vs1, d1, ds1, p1, q1, rfl, rfl, rfl, h1, r1⟩ := trodAll_cons r0
  obtain ⟨rfl, rfl, rfl⟩ := trodAll_nil r1
  obtain rfl : args = #[v0, v1] := by cases args; simp_all
  obtain ⟨rfl, rfl⟩ := trodVars_none hV
  obtain ⟨a0, len0, cap0, rfl⟩ := okWide_slice Try.underlying29 (hval 0 29 v0 rfl rfl)
  have k0 := h0
  have lt0 : ∀ x ∈ p0, x.block < W.heap.size := by obtain ⟨m, hm⟩ := k0; exact DataW.trod_lt m _ _ _ hm
  obtain ⟨z0, w0⟩ : ∃ zs, IsRow .i64 W a0 len0 cap0 zs := by
    obtain ⟨fuel, hf⟩ := h0
    rcases open_ints Try.underlying29 Try.underlying2 (by kernel_rfl) hf with ⟨hcs, _⟩ | ⟨x, l, c, zs, hcs, _, hl, hm, hz, _, hcell, hwz⟩
    · simp [Value.cells] at hcs
      obtain ⟨rfl, rfl, rfl⟩ := hcs
      exact ⟨[], .inl ⟨rfl, rfl, rfl, rfl⟩⟩
    · simp [Value.cells] at hcs
      obtain ⟨rfl, rfl, rfl⟩ := hcs
      exact ⟨zs, .inr ⟨_, rfl, hl, hm, by simpa using hz, hcell, hwz⟩⟩
  obtain ⟨a1, len1, cap1, rfl⟩ := okWide_slice Try.underlying29 (hval 1 29 v1 rfl rfl)
  have k1 := h1
  have lt1 : ∀ x ∈ p1, x.block < W.heap.size := by obtain ⟨m, hm⟩ := k1; exact DataW.trod_lt m _ _ _ hm
  obtain ⟨z1, w1⟩ : ∃ zs, IsRow .i64 W a1 len1 cap1 zs := by
    obtain ⟨fuel, hf⟩ := h1
    rcases open_ints Try.underlying29 Try.underlying2 (by kernel_rfl) hf with ⟨hcs, _⟩ | ⟨x, l, c, zs, hcs, _, hl, hm, hz, _, hcell, hwz⟩
    · simp [Value.cells] at hcs
      obtain ⟨rfl, rfl, rfl⟩ := hcs
      exact ⟨[], .inl ⟨rfl, rfl, rfl, rfl⟩⟩
    · simp [Value.cells] at hcs
      obtain ⟨rfl, rfl, rfl⟩ := hcs
      exact ⟨zs, .inr ⟨_, rfl, hl, hm, by simpa using hz, hcell, hwz⟩⟩
  clear hA0 hval0
  refine (walk a0 len0 cap0 z0 a1 len1 cap1 z1 W w0 w1).mono fun e W' ⟨he, bel⟩ => ?_
  subst he
  exact ⟨_, rfl, _, _, _, [], _, [], hW', trodAll_mk1 (shut_bool Try.underlying4 _), (trodAll_cons_mk (Below.trod laidOut (by kernel_rfl) (of_decide_eq_true (by kernel_rfl)) k0 bel lt0) (trodAll_cons_mk (Below.trod laidOut (by kernel_rfl) (of_decide_eq_true (by kernel_rfl)) k1 bel lt1) trodAll_mk0)), rfl, bel.frame _, fun h => by cases h⟩

theorem over : Rows.fnExactColourGapRow.holds Try.pinned (OpenSpec.ofChange Rows.fnExactColourGapSpec) :=
  OpenClaim.holds_of_wide 6 Try.f6 rfl rfl rfl rfl rfl rfl rfl ⟨rfl, rfl, rfl, rfl, rfl⟩ rfl rfl rfl rfl rfl (by kernel_rfl) Try.func6 (by kernel_rfl)
    (of_decide_eq_true (by kernel_rfl)) (by unfold Func.isWrapper; first | (rw [if_pos (by decide +kernel)]; kernel_rfl) | (rw [if_neg (by decide +kernel)]; exact ⟨rfl, rfl⟩))
    (fun os started H enc _ => lifted os started H enc)

/-- ████ THE STATEMENT ████ -/
theorem proved : Rows.FnExactColourGapSaid := over
#print axioms proved
end Go.Proofs.Ytjnpladpegmiiaa.fnExactColourGap
