/-
  The law FnExactPairGap holds for every input: the function answers as its model; conditions: none beside the row's own.
-/
import Derived.Test.YtembebdlllcblabPlankIn
import Derived.Test.YtembebdlllcblabPlank5
import Derived.Lib.Hide
import Derived.Test.YtembebdlllcblabRows
import Derived.WalkKit
import Derived.ProofKit
import Derived.OpenShut
import Derived.ShutString
import Derived.ChangeOld
import Derived.Below
namespace Go.Proofs.Ytembebdlllcblab.fnExactPairGap
open Go.ChangeShapes Go.WideShapes Go.ChangeAt Go.RowKit
open Go.ChangeMaps (open_string shut_string)
set_option linter.unusedVariables false

theorem own : ownKnob Try.prog.godebug = none := by kernel_rfl
theorem laidOut : laidOutB Try.prog = true := by kernel_rfl

/-- WHAT THE WALK IS TOLD OF A SLICE OF INTEGERS THAT CAME IN: it is nil; or it leads to a row of 'cap' cells, the numbers 'zs' (the first 'len' are its elements, the rest its spare room), each fitting its kind. -/
def IsRow (k : IntKind) (w : World) (a : Option Addr) (len cap : Nat) (zs : List Int) : Prop :=
  (a = none ∧ len = 0 ∧ cap = 0 ∧ zs = []) ∨
  ∃ x, a = some x ∧ len ≤ cap ∧ cap ≤ maxLen ∧ zs.length = cap ∧ (∀ i, i < zs.length → w.cell? (x.add i) = some (.int k (zs.getD i 0))) ∧ ∀ n ∈ zs, (Lit.int k n).wf = true

/-! ### STEP 1: THE WALK: the Go text returns true, AND WRITES NOTHING THAT WAS THERE: 'Below w.heap.size w w'' (Derived/Below.lean: '.refl', '.alloc', '.drew', '.setCell' at a new block, '.trans'). Open each 'IsRow' by 'rcases' AHEAD of 'go_enter'; part every test ahead of the walk. -/
set_option maxHeartbeats 1000000 in
theorem walk (a0 : Value) (a1 : Value) (w : World) (w0 : PlkV w a0) (w1 : PlkV w a1) :
    Calls Try.prog 8 #[a0, a1] w fun e w' => e = .returned (.bool true) ∧ Below w.heap.size w w' := by
  obtain ⟨s0, a0', b0', c0', d0', f0', rfl, hs0⟩ := w0
  obtain ⟨s1, a1', b1', c1', d1', f1', rfl, hs1⟩ := w1
  by_cases hL0 : (s0.size : Int) ≤ 1048576
  rotate_left
  · go_enter Try.func8, Try.ntmps8
    go_wp2_with fail
    refine (szPlank_no _ _ _ _ _ _ _ (by omega) (by omega) hs0 (by omega) _).mono ?_
    rintro e w1' ⟨rfl, b1'⟩
    have B1 := b1'
    clear b1'
    have C1 := bcell B1
    go_wp2
    go_ret
    exact ⟨rfl, (((Below.refl _ _).alloc (Nat.le_refl _) _).alloc (by simp) _).trans (B1.mono (by simp <;> omega))⟩
  by_cases hL1 : (s1.size : Int) ≤ 1048576 - s0.size
  rotate_left
  · go_enter Try.func8, Try.ntmps8
    go_wp2_with fail
    refine (szPlank_yes _ _ _ _ _ _ _ (by omega) (by omega) (by omega) _).mono ?_
    rintro e w1' ⟨rfl, b1'⟩
    have B1 := b1'
    clear b1'
    have C1 := bcell B1
    go_wp2_with fail
    refine (szPlank_no _ _ _ _ _ _ _ (by omega) (by omega) hs1 (by omega) _).mono ?_
    rintro e w2' ⟨rfl, b2'⟩
    have B2 := B1.trans (b2'.mono B1.size)
    clear b2' B1
    have C2 := bcell B2
    go_wp2
    go_ret
    exact ⟨rfl, (((Below.refl _ _).alloc (Nat.le_refl _) _).alloc (by simp) _).trans (B2.mono (by simp <;> omega))⟩
  have hd1 : decide (1048576 - (s0.size : Int) - (s1.size : Int) < 0) = false := by simp; omega
  go_enter Try.func8, Try.ntmps8
  go_wp2_with fail
  refine (szPlank_yes _ _ _ _ _ _ _ (by omega) (by omega) (by omega) _).mono ?_
  rintro e w1' ⟨rfl, b1'⟩
  have B1 := b1'
  clear b1'
  have C1 := bcell B1
  go_wp2_with fail
  refine (szPlank_yes _ _ _ _ _ _ _ (by omega) (by omega) (by omega) _).mono ?_
  rintro e w2' ⟨rfl, b2'⟩
  have B2 := B1.trans (b2'.mono B1.size)
  clear b2' B1
  have C2 := bcell B2
  clear C2
  have hP := plk_box23 s0 a0' b0' c0' d0' f0' w
  have hP1 := plk_box23 s1 a1' b1' c1' d1' f1' (w.alloc (.cells #[.string s0, .int .i64 a0', .int .i64 b0', .int .i64 c0', .int .i64 d0', .int .i64 f0'] 23))
  rw [show (w.alloc (.cells #[.string s0, .int .i64 a0', .int .i64 b0', .int .i64 c0', .int .i64 d0', .int .i64 f0'] 23)).heap.size = w.heap.size + 1 by simp] at hP1
  have hPb := hP.below (by simp) ((Below.refl _ _).alloc (Nat.le_refl _) (.cells #[.string s1, .int .i64 a1', .int .i64 b1', .int .i64 c1', .int .i64 d1', .int .i64 f1'] 23))
  have hBw : Below w.heap.size w w2' := ((((Below.refl _ _).alloc (Nat.le_refl _) _).alloc (by simp) _).trans (B2.mono (by simp <;> omega)))
  have hBsz1 : w.heap.size + 1 < w2'.heap.size := by have := B2.size; simp at this; omega
  have hQ0 := hPb.below (by simp <;> omega) B2
  have hQ1 := hP1.below (by simp <;> omega) B2
  clear hP hP1 hPb B2
  go_wp2
  generalize hBB : w.heap.size = B at hQ0 hQ1 hBsz1 ⊢
  have hS1 : (((w2'.cell? ⟨B, 0, none⟩ = some (.string s0) ∧ w2'.cell? ⟨B, 1, none⟩ = some (.int .i64 a0') ∧ w2'.cell? ⟨B, 2, none⟩ = some (.int .i64 b0') ∧ w2'.cell? ⟨B, 3, none⟩ = some (.int .i64 c0') ∧ w2'.cell? ⟨B, 4, none⟩ = some (.int .i64 d0') ∧ w2'.cell? ⟨B, 5, none⟩ = some (.int .i64 f0')) ∧ (w2'.cell? ⟨B + 1, 0, none⟩ = some (.string s1) ∧ w2'.cell? ⟨B + 1, 1, none⟩ = some (.int .i64 a1') ∧ w2'.cell? ⟨B + 1, 2, none⟩ = some (.int .i64 b1') ∧ w2'.cell? ⟨B + 1, 3, none⟩ = some (.int .i64 c1') ∧ w2'.cell? ⟨B + 1, 4, none⟩ = some (.int .i64 d1') ∧ w2'.cell? ⟨B + 1, 5, none⟩ = some (.int .i64 f1'))) ∧ Below w2'.heap.size w2' w2') := ⟨⟨hQ0, hQ1⟩, Below.refl _ _⟩
  clear hQ0 hQ1
  have keep1 : ∀ W1 W2, (((W1.cell? ⟨B, 0, none⟩ = some (.string s0) ∧ W1.cell? ⟨B, 1, none⟩ = some (.int .i64 a0') ∧ W1.cell? ⟨B, 2, none⟩ = some (.int .i64 b0') ∧ W1.cell? ⟨B, 3, none⟩ = some (.int .i64 c0') ∧ W1.cell? ⟨B, 4, none⟩ = some (.int .i64 d0') ∧ W1.cell? ⟨B, 5, none⟩ = some (.int .i64 f0')) ∧ (W1.cell? ⟨B + 1, 0, none⟩ = some (.string s1) ∧ W1.cell? ⟨B + 1, 1, none⟩ = some (.int .i64 a1') ∧ W1.cell? ⟨B + 1, 2, none⟩ = some (.int .i64 b1') ∧ W1.cell? ⟨B + 1, 3, none⟩ = some (.int .i64 c1') ∧ W1.cell? ⟨B + 1, 4, none⟩ = some (.int .i64 d1') ∧ W1.cell? ⟨B + 1, 5, none⟩ = some (.int .i64 f1'))) ∧ Below w2'.heap.size w2' W1) → Below W1.heap.size W1 W2 → (((W2.cell? ⟨B, 0, none⟩ = some (.string s0) ∧ W2.cell? ⟨B, 1, none⟩ = some (.int .i64 a0') ∧ W2.cell? ⟨B, 2, none⟩ = some (.int .i64 b0') ∧ W2.cell? ⟨B, 3, none⟩ = some (.int .i64 c0') ∧ W2.cell? ⟨B, 4, none⟩ = some (.int .i64 d0') ∧ W2.cell? ⟨B, 5, none⟩ = some (.int .i64 f0')) ∧ (W2.cell? ⟨B + 1, 0, none⟩ = some (.string s1) ∧ W2.cell? ⟨B + 1, 1, none⟩ = some (.int .i64 a1') ∧ W2.cell? ⟨B + 1, 2, none⟩ = some (.int .i64 b1') ∧ W2.cell? ⟨B + 1, 3, none⟩ = some (.int .i64 c1') ∧ W2.cell? ⟨B + 1, 4, none⟩ = some (.int .i64 d1') ∧ W2.cell? ⟨B + 1, 5, none⟩ = some (.int .i64 f1'))) ∧ Below w2'.heap.size w2' W2) := fun W1 W2 h1 h2 => by
    obtain ⟨⟨p0, p1⟩, hb⟩ := h1
    have q0 := PlkAt.below (x := ⟨s0, a0', b0', c0', d0', f0'⟩) (o := 0) p0 (Nat.lt_of_lt_of_le (by omega) hb.size) h2
    have q1 := PlkAt.below (x := ⟨s1, a1', b1', c1', d1', f1'⟩) (o := 0) p1 (Nat.lt_of_lt_of_le hBsz1 hb.size) h2
    exact ⟨⟨q0, q1⟩, hb.trans (h2.mono hb.size)⟩
  have keepH1 := Lib.hid keep1
  clear keep1
  go_region_held3 (fun w' => (((w'.cell? ⟨B, 0, none⟩ = some (.string s0) ∧ w'.cell? ⟨B, 1, none⟩ = some (.int .i64 a0') ∧ w'.cell? ⟨B, 2, none⟩ = some (.int .i64 b0') ∧ w'.cell? ⟨B, 3, none⟩ = some (.int .i64 c0') ∧ w'.cell? ⟨B, 4, none⟩ = some (.int .i64 d0') ∧ w'.cell? ⟨B, 5, none⟩ = some (.int .i64 f0')) ∧ (w'.cell? ⟨B + 1, 0, none⟩ = some (.string s1) ∧ w'.cell? ⟨B + 1, 1, none⟩ = some (.int .i64 a1') ∧ w'.cell? ⟨B + 1, 2, none⟩ = some (.int .i64 b1') ∧ w'.cell? ⟨B + 1, 3, none⟩ = some (.int .i64 c1') ∧ w'.cell? ⟨B + 1, 4, none⟩ = some (.int .i64 d1') ∧ w'.cell? ⟨B + 1, 5, none⟩ = some (.int .i64 f1'))) ∧ Below w2'.heap.size w2' w'))
    (first | exact ⟨hS1.1, belowN hS1.2 1⟩ | exact keepH1.out _ _ (by assumption) (by assumption) | assumption)
    (first | (go_at_call 15; (with_reducible refine (toPlank_any s0 a0' b0' c0' d0' f0' _).mono ?_); rintro e w' ⟨rfl, hbel⟩) | (go_at_call 15; (with_reducible refine (toPlank_any s1 a1' b1' c1' d1' f1' _).mono ?_); rintro e w' ⟨rfl, hbel⟩) | (go_at_call 28; (with_reducible refine (specPairGap_any _ _ _ _ _ _ _ _ _ _ _ _ hs0 hs1 _).mono ?_); rintro e w' ⟨rfl, hbel⟩))
  rename_i hHeld
  have hW2 : Below w2'.heap.size w2' w' := hHeld.2
  have hBw2 : Below w.heap.size w w' := hBw.trans (hW2.mono hBw.size)
  have hBsz2 : B + 1 < w'.heap.size := Nat.lt_of_lt_of_le hBsz1 hW2.size
  have hS2 : (((w'.cell? ⟨B, 0, none⟩ = some (.string s0) ∧ w'.cell? ⟨B, 1, none⟩ = some (.int .i64 a0') ∧ w'.cell? ⟨B, 2, none⟩ = some (.int .i64 b0') ∧ w'.cell? ⟨B, 3, none⟩ = some (.int .i64 c0') ∧ w'.cell? ⟨B, 4, none⟩ = some (.int .i64 d0') ∧ w'.cell? ⟨B, 5, none⟩ = some (.int .i64 f0')) ∧ (w'.cell? ⟨B + 1, 0, none⟩ = some (.string s1) ∧ w'.cell? ⟨B + 1, 1, none⟩ = some (.int .i64 a1') ∧ w'.cell? ⟨B + 1, 2, none⟩ = some (.int .i64 b1') ∧ w'.cell? ⟨B + 1, 3, none⟩ = some (.int .i64 c1') ∧ w'.cell? ⟨B + 1, 4, none⟩ = some (.int .i64 d1') ∧ w'.cell? ⟨B + 1, 5, none⟩ = some (.int .i64 f1'))) ∧ Below w'.heap.size w' w') := ⟨hHeld.1, Below.refl _ _⟩
  clear hS1 keepH1 hHeld hBw
  obtain ⟨wb, rfl⟩ : ∃ wb : World, wb = w' := ⟨_, rfl⟩
  clear hW2 hBsz1
  go_wp2
  have keep2 : ∀ W1 W2, (((W1.cell? ⟨B, 0, none⟩ = some (.string s0) ∧ W1.cell? ⟨B, 1, none⟩ = some (.int .i64 a0') ∧ W1.cell? ⟨B, 2, none⟩ = some (.int .i64 b0') ∧ W1.cell? ⟨B, 3, none⟩ = some (.int .i64 c0') ∧ W1.cell? ⟨B, 4, none⟩ = some (.int .i64 d0') ∧ W1.cell? ⟨B, 5, none⟩ = some (.int .i64 f0')) ∧ (W1.cell? ⟨B + 1, 0, none⟩ = some (.string s1) ∧ W1.cell? ⟨B + 1, 1, none⟩ = some (.int .i64 a1') ∧ W1.cell? ⟨B + 1, 2, none⟩ = some (.int .i64 b1') ∧ W1.cell? ⟨B + 1, 3, none⟩ = some (.int .i64 c1') ∧ W1.cell? ⟨B + 1, 4, none⟩ = some (.int .i64 d1') ∧ W1.cell? ⟨B + 1, 5, none⟩ = some (.int .i64 f1'))) ∧ Below wb.heap.size wb W1) → Below W1.heap.size W1 W2 → (((W2.cell? ⟨B, 0, none⟩ = some (.string s0) ∧ W2.cell? ⟨B, 1, none⟩ = some (.int .i64 a0') ∧ W2.cell? ⟨B, 2, none⟩ = some (.int .i64 b0') ∧ W2.cell? ⟨B, 3, none⟩ = some (.int .i64 c0') ∧ W2.cell? ⟨B, 4, none⟩ = some (.int .i64 d0') ∧ W2.cell? ⟨B, 5, none⟩ = some (.int .i64 f0')) ∧ (W2.cell? ⟨B + 1, 0, none⟩ = some (.string s1) ∧ W2.cell? ⟨B + 1, 1, none⟩ = some (.int .i64 a1') ∧ W2.cell? ⟨B + 1, 2, none⟩ = some (.int .i64 b1') ∧ W2.cell? ⟨B + 1, 3, none⟩ = some (.int .i64 c1') ∧ W2.cell? ⟨B + 1, 4, none⟩ = some (.int .i64 d1') ∧ W2.cell? ⟨B + 1, 5, none⟩ = some (.int .i64 f1'))) ∧ Below wb.heap.size wb W2) := fun W1 W2 h1 h2 => by
    obtain ⟨⟨p0, p1⟩, hb⟩ := h1
    have q0 := PlkAt.below (x := ⟨s0, a0', b0', c0', d0', f0'⟩) (o := 0) p0 (Nat.lt_of_lt_of_le (by omega) hb.size) h2
    have q1 := PlkAt.below (x := ⟨s1, a1', b1', c1', d1', f1'⟩) (o := 0) p1 (Nat.lt_of_lt_of_le hBsz2 hb.size) h2
    exact ⟨⟨q0, q1⟩, hb.trans (h2.mono hb.size)⟩
  have keepH2 := Lib.hid keep2
  clear keep2
  go_region_held3 (fun w' => (((w'.cell? ⟨B, 0, none⟩ = some (.string s0) ∧ w'.cell? ⟨B, 1, none⟩ = some (.int .i64 a0') ∧ w'.cell? ⟨B, 2, none⟩ = some (.int .i64 b0') ∧ w'.cell? ⟨B, 3, none⟩ = some (.int .i64 c0') ∧ w'.cell? ⟨B, 4, none⟩ = some (.int .i64 d0') ∧ w'.cell? ⟨B, 5, none⟩ = some (.int .i64 f0')) ∧ (w'.cell? ⟨B + 1, 0, none⟩ = some (.string s1) ∧ w'.cell? ⟨B + 1, 1, none⟩ = some (.int .i64 a1') ∧ w'.cell? ⟨B + 1, 2, none⟩ = some (.int .i64 b1') ∧ w'.cell? ⟨B + 1, 3, none⟩ = some (.int .i64 c1') ∧ w'.cell? ⟨B + 1, 4, none⟩ = some (.int .i64 d1') ∧ w'.cell? ⟨B + 1, 5, none⟩ = some (.int .i64 f1'))) ∧ Below wb.heap.size wb w'))
    (first | exact ⟨hS2.1, belowN hS2.2 1⟩ | exact keepH2.out _ _ (by assumption) (by assumption) | assumption)
    (first | (go_at_call 15; (with_reducible refine (toPlank_any s0 a0' b0' c0' d0' f0' _).mono ?_); rintro e w' ⟨rfl, hbel⟩) | (go_at_call 15; (with_reducible refine (toPlank_any s1 a1' b1' c1' d1' f1' _).mono ?_); rintro e w' ⟨rfl, hbel⟩) | (go_at_call 29; (with_reducible refine (implPairGap_any _ _ _ _ _ _ _ _ _ _ _ _ hs0 hs1 _).mono ?_); rintro e w' ⟨rfl, hbel⟩))
  rename_i hHeld2
  go_wp2
  go_ret
  exact ⟨rfl, hBw2.trans (hHeld2.2.mono hBw2.size)⟩


/-! ### THE ROW's STEP: WRITTEN OUT: LEAVE IT -/
set_option maxRecDepth 100000 in
theorem lifted (os : Os) (started : os.Started) (H : Type) (enc : TypeId × Value → H) :
    ReturnsInHanded {} Try.checked os 8 .any (Rows.fnExactPairGapSpec.pre6 enc Try.prog Try.f8 Rows.fnExactPairGapRow.domain false) (Rows.fnExactPairGapSpec.post enc Try.prog Try.f8 false true false false) := by
  refine returnsInHanded_of_change (C := Try.checked) own started (by kernel_rfl) Try.func8
    (ChangeSpec.witness6 (enc := enc) (C := Try.checked) false ⟨#[], #[.agg #[.string ByteArray.empty, .int .i64 0, .int .i64 0, .int .i64 0, .int .i64 0, .int .i64 0], .agg #[.string ByteArray.empty, .int .i64 0, .int .i64 0, .int .i64 0, .int .i64 0, .int .i64 0]], []⟩ 8 (by kernel_rfl) (by kernel_rfl) (by kernel_rfl) (by kernel_rfl)) ?_
  intro W base args ds gs before hval0 hW hcnd _
  have hval : ∀ (j : Nat) t v, Try.f8.params[j]? = some t → args[j]? = some v → Value.okWide Try.prog W .any base t v := hval0
  have hW' := hW
  obtain ⟨p, q, hA0, hV, rfl, hfz, hnd⟩ := hW
  have hA : DataW.TrodAll enc Try.prog W 0 (fun _ => true) true Try.f8.params.toList args.toList ds p := hA0
  rw [Try.params8] at hA hval
  obtain ⟨v0, vs0, d0, ds0, p0, q0, hargs, rfl, rfl, h0, r0⟩ := trodAll_cons hA
  obtain ⟨v1, vs1, d1, ds1, p1, q1, rfl, rfl, rfl, h1, r1⟩ := trodAll_cons r0
  obtain ⟨rfl, rfl, rfl⟩ := trodAll_nil r1
  obtain rfl : args = #[v0, v1] := by cases args; simp_all
  obtain ⟨rfl, rfl⟩ := trodVars_none hV
  have k0 := h0
  have lt0 : ∀ x ∈ p0, x.block < W.heap.size := by obtain ⟨m, hm⟩ := k0; exact DataW.trod_lt m _ _ _ hm
  have w0 : PlkV W v0 := plk_open (hval 0 23 v0 rfl rfl) h0
  have k1 := h1
  have lt1 : ∀ x ∈ p1, x.block < W.heap.size := by obtain ⟨m, hm⟩ := k1; exact DataW.trod_lt m _ _ _ hm
  have w1 : PlkV W v1 := plk_open (hval 1 23 v1 rfl rfl) h1
  clear hA0 hval0
  refine (walk v0 v1 W w0 w1).mono fun e W' ⟨he, bel⟩ => ?_
  subst he
  exact ⟨_, rfl, _, _, _, [], _, [], hW', trodAll_mk1 (shut_bool Try.underlying4 _), (trodAll_cons_mk (Below.trod laidOut (by kernel_rfl) (of_decide_eq_true (by kernel_rfl)) k0 bel lt0) (trodAll_cons_mk (Below.trod laidOut (by kernel_rfl) (of_decide_eq_true (by kernel_rfl)) k1 bel lt1) trodAll_mk0)), rfl, bel.frame _, fun h => by cases h⟩

theorem over : Rows.fnExactPairGapRow.holds Try.pinned (OpenSpec.ofChange Rows.fnExactPairGapSpec) :=
  OpenClaim.holds_of_wide 8 Try.f8 rfl rfl rfl rfl rfl rfl rfl ⟨rfl, rfl, rfl, rfl, rfl⟩ rfl rfl rfl rfl rfl (by kernel_rfl) Try.func8 (by kernel_rfl)
    (of_decide_eq_true (by kernel_rfl)) (by unfold Func.isWrapper; first | (rw [if_pos (by decide +kernel)]; kernel_rfl) | (rw [if_neg (by decide +kernel)]; exact ⟨rfl, rfl⟩))
    (fun os started H enc _ => lifted os started H enc)

/-- ████ THE STATEMENT ████ -/
theorem proved : Rows.FnExactPairGapSaid := over
#print axioms proved
end Go.Proofs.Ytembebdlllcblab.fnExactPairGap
