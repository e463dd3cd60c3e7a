/-
  The law FnExactDryingDays holds for every input: the function answers as its model; conditions: none beside the row's own.
-/
import Derived.Test.YtjnpladpegmiiaaOrd
import Derived.Test.YtjnpladpegmiiaaCtsW
import Derived.Test.YtjnpladpegmiiaaCtsM
import Derived.Test.YtjnpladpegmiiaaRowE
import Derived.Lib.Hide
import Derived.Test.YtjnpladpegmiiaaRows
import Derived.WalkKit
import Derived.ProofKit
import Derived.OpenShut
import Derived.ShutString
import Derived.ChangeOld
import Derived.Below
namespace Go.Proofs.Ytjnpladpegmiiaa.fnExactDryingDays
open Go.ChangeShapes Go.WideShapes Go.ChangeAt Go.RowKit
open Go.ChangeMaps (open_string shut_string)
set_option linter.unusedVariables false

theorem own : ownKnob Try.prog.godebug = none := by kernel_rfl
theorem laidOut : laidOutB Try.prog = true := by kernel_rfl

/-- WHAT THE WALK IS TOLD OF A SLICE OF INTEGERS THAT CAME IN: it is nil; or it leads to a row of 'cap' cells, the numbers 'zs' (the first 'len' are its elements, the rest its spare room), each fitting its kind. -/
def IsRow (k : IntKind) (w : World) (a : Option Addr) (len cap : Nat) (zs : List Int) : Prop :=
  (a = none ∧ len = 0 ∧ cap = 0 ∧ zs = []) ∨
  ∃ x, a = some x ∧ len ≤ cap ∧ cap ≤ maxLen ∧ zs.length = cap ∧ (∀ i, i < zs.length → w.cell? (x.add i) = some (.int k (zs.getD i 0))) ∧ ∀ n ∈ zs, (Lit.int k n).wf = true

/-! ### STEP 1: THE WALK: the Go text returns true, AND WRITES NOTHING THAT WAS THERE: 'Below w.heap.size w w'' (Derived/Below.lean: '.refl', '.alloc', '.drew', '.setCell' at a new block, '.trans'). Open each 'IsRow' by 'rcases' AHEAD of 'go_enter'; part every test ahead of the walk. -/
set_option maxHeartbeats 1000000 in
theorem walk (a0 : Value) (a1 : Option Addr) (len1 cap1 : Nat) (z1 : List Int) (w : World) (w0 : CtsV w a0) (w1 : IsRow .i64 w a1 len1 cap1 z1) :
    Calls Try.prog 4 #[a0, .slice a1 len1 cap1] w fun e w' => e = .returned (.bool true) ∧ Below w.heap.size w w' := by
  obtain ⟨Z0, hZ0, hZl0⟩ := w0
  have hZ0' := Lib.hid hZ0
  clear hZ0
  obtain ⟨G1, hG1, hl1⟩ := ints_in w1
  have hG1' := Lib.hid hG1
  have hzz1 : Hid (∀ n ∈ G1, inI n) := Lib.hid (by obtain ⟨_, _, _, _, h, _⟩ := hG1; exact h)
  clear hG1 w1
  by_cases hL1 : len1 ≤ 1048576
  rotate_left
  · go_enter Try.func4, Try.ntmps4
    go_wp2
    go_ret
    exact ⟨rfl, Below.refl _ _⟩
  have hg1 : G1.length ≤ 1048576 := by omega
  go_enter Try.func4, Try.ntmps4
  go_wp2_with fail
  refine (szCoatS_any a0 Z0 _ hZl0 hZ0'.out).mono ?_
  rintro e u1 ⟨n, rfl, hn0, hn1, hn2, d1⟩
  by_cases hneg : n < 0
  · go_wp2
    go_ret
    exact ⟨rfl, d1⟩
  have D1 := d1
  have s1 := Lib.hid (d1.size)
  clear d1
  obtain ⟨hzl, hids⟩ := hn2 (by omega)
  have hz0 := Lib.hid hzl
  have hzn0 : Z0.length ≤ 1048576 := by omega
  clear hn2 hids hzl hZl0
  have cs := fun V0 V1 W (h0 : CtsAt W V0 Z0) (h1 : IntsAt W V1 G1) => specDryingDays_any V0 Z0 V1 G1 W hzn0 h0 hg1 h1
  have ci := fun V0 V1 W (h0 : CtsAt W V0 Z0) (h1 : IntsAt W V1 G1) => implDryingDays_any V0 Z0 V1 G1 W hzn0 h0 hg1 h1
  obtain ⟨R0, hR0⟩ : ∃ R0, R0 = dayV Z0 G1 := ⟨_, rfl⟩
  rw [← hR0] at cs ci
  clear hR0
  obtain ⟨R1, hR1⟩ : ∃ R1, R1 = dayC Z0 G1 := ⟨_, rfl⟩
  rw [← hR1] at cs ci
  clear hR1
  have cs' := Lib.hid cs
  have ci' := Lib.hid ci
  clear cs ci
  go_wp2_with fail
  refine (toCoatS_new a0 Z0 _ hz0.out (hZ0'.out.below D1)).mono ?_
  rintro e u2 ⟨us2, rfl, O2, r2, d2⟩
  have D2 := D1.trans (d2.mono D1.size)
  have s2 := Lib.hid (d2.size)
  clear D1
  clear d2
  clear O2
  go_wp2_with fail
  refine (toInt64S_any _ G1 _ hg1 (hG1'.out.below D2)).mono ?_
  rintro e u3 ⟨v3, rfl, o3, d3⟩
  have D3 := D2.trans (d3.mono D2.size)
  have s3 := Lib.hid (d3.size)
  replace r2 := r2.below d3
  clear D2
  clear d3
  have r3 := ints_own o3 hzz1.out
  clear o3
  go_wp2_with fail
  refine (cs'.out _ _ _ r2 r3).mono ?_
  rintro e u4 ⟨rfl, d4⟩
  have D4 := D3.trans (d4.mono D3.size)
  have s4 := Lib.hid (d4.size)
  replace r2 := r2.below d4
  replace r3 := r3.below d4
  clear D3
  clear d4
  clear r2
  clear r3
  go_wp2_with fail
  refine (toCoatS_new a0 Z0 _ hz0.out (hZ0'.out.below D4)).mono ?_
  rintro e u5 ⟨us5, rfl, O5, r5, d5⟩
  have D5 := D4.trans (d5.mono D4.size)
  have s5 := Lib.hid (d5.size)
  clear D4
  clear d5
  clear O5
  go_wp2_with fail
  refine (toInt64S_any _ G1 _ hg1 (hG1'.out.below D5)).mono ?_
  rintro e u6 ⟨v6, rfl, o6, d6⟩
  have D6 := D5.trans (d6.mono D5.size)
  have s6 := Lib.hid (d6.size)
  replace r5 := r5.below d6
  clear D5
  clear d6
  have r6 := ints_own o6 hzz1.out
  clear o6
  go_wp2_with fail
  refine (ci'.out _ _ _ r5 r6).mono ?_
  rintro e u7 ⟨rfl, d7⟩
  have D7 := D6.trans (d7.mono D6.size)
  have s7 := Lib.hid (d7.size)
  replace r5 := r5.below d7
  replace r6 := r6.below d7
  clear D6
  clear d7
  go_wp2_with fail
  refine (toCoatS_new a0 Z0 _ hz0.out (hZ0'.out.below D7)).mono ?_
  rintro e u8 ⟨us8, rfl, O8, r8, d8⟩
  have D8 := D7.trans (d8.mono D7.size)
  have s8 := Lib.hid (d8.size)
  replace r5 := r5.below d8
  replace r6 := r6.below d8
  clear D7
  clear d8
  clear O8
  go_wp2_with fail
  refine (eqCoatS_any _ _ Z0 _ hz0.out r5 r8).mono ?_
  rintro e u9 ⟨rfl, d9⟩
  have D9 := D8.trans (d9.mono D8.size)
  have s9 := Lib.hid (d9.size)
  replace r5 := r5.below d9
  replace r6 := r6.below d9
  replace r8 := r8.below d9
  clear D8
  clear d9
  clear r8
  go_wp2_with fail
  refine (toInt64S_any _ G1 _ hg1 (hG1'.out.below D9)).mono ?_
  rintro e u10 ⟨v10, rfl, o10, d10⟩
  have D10 := D9.trans (d10.mono D9.size)
  have s10 := Lib.hid (d10.size)
  replace r5 := r5.below d10
  replace r6 := r6.below d10
  clear D9
  clear d10
  have r10 := ints_own o10 hzz1.out
  clear o10
  go_wp2_with fail
  refine (eqInt64S_any _ _ G1 _ (by omega) r6 r10).mono ?_
  rintro e _ ⟨rfl, m11, rfl⟩
  have D11 := belowN D10 m11
  have s11 : Hid (u10.heap.size ≤ u10.heap.size) := Lib.hid (Nat.le_refl _)
  replace r5 := r5.below (belowN (Below.refl _ _) m11)
  replace r6 := r6.below (belowN (Below.refl _ _) m11)
  replace r10 := r10.below (belowN (Below.refl _ _) m11)
  clear D10
  clear r10
  go_wp2
  go_ret
  exact ⟨rfl, D11⟩


/-! ### THE ROW's STEP: WRITTEN OUT: LEAVE IT -/
set_option maxRecDepth 100000 in
theorem lifted (os : Os) (started : os.Started) (H : Type) (enc : TypeId × Value → H) :
    ReturnsInHanded {} Try.checked os 4 .any (Rows.fnExactDryingDaysSpec.pre6 enc Try.prog Try.f4 Rows.fnExactDryingDaysRow.domain false) (Rows.fnExactDryingDaysSpec.post enc Try.prog Try.f4 false true false false) := by
  refine returnsInHanded_of_change (C := Try.checked) own started (by kernel_rfl) Try.func4
    (ChangeSpec.witness6 (enc := enc) (C := Try.checked) false ⟨#[], #[.slice none 0 0, .slice none 0 0], []⟩ 8 (by kernel_rfl) (by kernel_rfl) (by kernel_rfl) (by kernel_rfl)) ?_
  intro W base args ds gs before hval0 hW hcnd _
  have hval : ∀ (j : Nat) t v, Try.f4.params[j]? = some t → args[j]? = some v → Value.okWide Try.prog W .any base t v := hval0
  have hW' := hW
  obtain ⟨p, q, hA0, hV, rfl, hfz, hnd⟩ := hW
  have hA : DataW.TrodAll enc Try.prog W 0 (fun _ => true) true Try.f4.params.toList args.toList ds p := hA0
  rw [Try.params4] at hA hval
  obtain ⟨v0, vs0, d0, ds0, p0, q0, hargs, rfl, rfl, h0, r0⟩ := trodAll_cons hA
  obtain ⟨v1, vs1, d1, ds1, p1, q1, rfl, rfl, rfl, h1, r1⟩ := trodAll_cons r0
  obtain ⟨rfl, rfl, rfl⟩ := trodAll_nil r1
  obtain rfl : args = #[v0, v1] := by cases args; simp_all
  obtain ⟨rfl, rfl⟩ := trodVars_none hV
  have k0 := h0
  have lt0 : ∀ x ∈ p0, x.block < W.heap.size := by obtain ⟨m, hm⟩ := k0; exact DataW.trod_lt m _ _ _ hm
  have w0 : CtsV W v0 := cts_open (hval 0 22 v0 rfl rfl) h0
  obtain ⟨a1, len1, cap1, rfl⟩ := okWide_slice Try.underlying29 (hval 1 29 v1 rfl rfl)
  have k1 := h1
  have lt1 : ∀ x ∈ p1, x.block < W.heap.size := by obtain ⟨m, hm⟩ := k1; exact DataW.trod_lt m _ _ _ hm
  obtain ⟨z1, w1⟩ : ∃ zs, IsRow .i64 W a1 len1 cap1 zs := by
    obtain ⟨fuel, hf⟩ := h1
    rcases open_ints Try.underlying29 Try.underlying2 (by kernel_rfl) hf with ⟨hcs, _⟩ | ⟨x, l, c, zs, hcs, _, hl, hm, hz, _, hcell, hwz⟩
    · simp [Value.cells] at hcs
      obtain ⟨rfl, rfl, rfl⟩ := hcs
      exact ⟨[], .inl ⟨rfl, rfl, rfl, rfl⟩⟩
    · simp [Value.cells] at hcs
      obtain ⟨rfl, rfl, rfl⟩ := hcs
      exact ⟨zs, .inr ⟨_, rfl, hl, hm, by simpa using hz, hcell, hwz⟩⟩
  clear hA0 hval0
  refine (walk v0 a1 len1 cap1 z1 W w0 w1).mono fun e W' ⟨he, bel⟩ => ?_
  subst he
  exact ⟨_, rfl, _, _, _, [], _, [], hW', trodAll_mk1 (shut_bool Try.underlying4 _), (trodAll_cons_mk (Below.trod laidOut (by kernel_rfl) (of_decide_eq_true (by kernel_rfl)) k0 bel lt0) (trodAll_cons_mk (Below.trod laidOut (by kernel_rfl) (of_decide_eq_true (by kernel_rfl)) k1 bel lt1) trodAll_mk0)), rfl, bel.frame _, fun h => by cases h⟩

theorem over : Rows.fnExactDryingDaysRow.holds Try.pinned (OpenSpec.ofChange Rows.fnExactDryingDaysSpec) :=
  OpenClaim.holds_of_wide 4 Try.f4 rfl rfl rfl rfl rfl rfl rfl ⟨rfl, rfl, rfl, rfl, rfl⟩ rfl rfl rfl rfl rfl (by kernel_rfl) Try.func4 (by kernel_rfl)
    (of_decide_eq_true (by kernel_rfl)) (by unfold Func.isWrapper; first | (rw [if_pos (by decide +kernel)]; kernel_rfl) | (rw [if_neg (by decide +kernel)]; exact ⟨rfl, rfl⟩))
    (fun os started H enc _ => lifted os started H enc)

/-- ████ THE STATEMENT ████ -/
theorem proved : Rows.FnExactDryingDaysSaid := over
#print axioms proved
end Go.Proofs.Ytjnpladpegmiiaa.fnExactDryingDays
