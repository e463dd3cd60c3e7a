/-
  The law FnExactIsSmoothJoint holds for every input: the function answers as its model; conditions: none beside the row's own.
-/
import Derived.Test.YtdgkpghecfpgoaaArcI
import Derived.Test.YtdgkpghecfpgoaaArcT
import Derived.Lib.Hide
import Derived.Test.YtdgkpghecfpgoaaRows
import Derived.WalkKit
import Derived.ProofKit
import Derived.OpenShut
import Derived.ShutString
import Derived.ChangeOld
import Derived.Below
namespace Go.Proofs.Ytdgkpghecfpgoaa.fnExactIsSmoothJoint
open Go.ChangeShapes Go.WideShapes Go.ChangeAt Go.RowKit
open Go.ChangeMaps (open_string shut_string)
set_option linter.unusedVariables false

theorem own : ownKnob Try.prog.godebug = none := by kernel_rfl
theorem laidOut : laidOutB Try.prog = true := by kernel_rfl

/-- WHAT THE WALK IS TOLD OF A SLICE OF INTEGERS THAT CAME IN: it is nil; or it leads to a row of 'cap' cells, the numbers 'zs' (the first 'len' are its elements, the rest its spare room), each fitting its kind. -/
def IsRow (k : IntKind) (w : World) (a : Option Addr) (len cap : Nat) (zs : List Int) : Prop :=
  (a = none ∧ len = 0 ∧ cap = 0 ∧ zs = []) ∨
  ∃ x, a = some x ∧ len ≤ cap ∧ cap ≤ maxLen ∧ zs.length = cap ∧ (∀ i, i < zs.length → w.cell? (x.add i) = some (.int k (zs.getD i 0))) ∧ ∀ n ∈ zs, (Lit.int k n).wf = true

/-! ### STEP 1: THE WALK: the Go text returns true, AND WRITES NOTHING THAT WAS THERE: 'Below w.heap.size w w'' (Derived/Below.lean: '.refl', '.alloc', '.drew', '.setCell' at a new block, '.trans'). Open each 'IsRow' by 'rcases' AHEAD of 'go_enter'; part every test ahead of the walk. -/
set_option maxHeartbeats 1000000 in
theorem walk (a0 : Value) (a1 : Value) (w : World) (w0 : ArcV w a0) (w1 : ArcV w a1) :
    Calls Try.prog 6 #[a0, a1] w fun e w' => e = .returned (.bool true) ∧ Below w.heap.size w w' := by
  obtain ⟨a0', b0', c0', d0', p0', s0', rfl⟩ := w0
  obtain ⟨a1', b1', c1', d1', p1', s1', rfl⟩ := w1
  go_enter Try.func6, Try.ntmps6
  go_wp2
  obtain ⟨q1, q2, hB0, hsz⟩ := two_boxes w #[.int .i64 a0', .int .i64 b0', .int .i64 c0', .int .i64 d0', .int .i64 p0', .int .i64 s0'] 25 #[.int .i64 a1', .int .i64 b1', .int .i64 c1', .int .i64 d1', .int .i64 p1', .int .i64 s1'] 25
  generalize ((w.alloc (.cells #[.int .i64 a0', .int .i64 b0', .int .i64 c0', .int .i64 d0', .int .i64 p0', .int .i64 s0'] 25)).alloc (.cells #[.int .i64 a1', .int .i64 b1', .int .i64 c1', .int .i64 d1', .int .i64 p1', .int .i64 s1'] 25)) = W0 at q1 q2 hB0 hsz ⊢
  have hS0 : (((W0.cell? ⟨w.heap.size, 0, none⟩ = some (.int .i64 a0') ∧ W0.cell? ⟨w.heap.size, 1, none⟩ = some (.int .i64 b0') ∧ W0.cell? ⟨w.heap.size, 2, none⟩ = some (.int .i64 c0') ∧ W0.cell? ⟨w.heap.size, 3, none⟩ = some (.int .i64 d0') ∧ W0.cell? ⟨w.heap.size, 4, none⟩ = some (.int .i64 p0') ∧ W0.cell? ⟨w.heap.size, 5, none⟩ = some (.int .i64 s0')) ∧ (W0.cell? ⟨w.heap.size + 1, 0, none⟩ = some (.int .i64 a1') ∧ W0.cell? ⟨w.heap.size + 1, 1, none⟩ = some (.int .i64 b1') ∧ W0.cell? ⟨w.heap.size + 1, 2, none⟩ = some (.int .i64 c1') ∧ W0.cell? ⟨w.heap.size + 1, 3, none⟩ = some (.int .i64 d1') ∧ W0.cell? ⟨w.heap.size + 1, 4, none⟩ = some (.int .i64 p1') ∧ W0.cell? ⟨w.heap.size + 1, 5, none⟩ = some (.int .i64 s1'))) ∧ Below w.heap.size w W0) := ⟨⟨⟨q1 0 _ rfl, q1 1 _ rfl, q1 2 _ rfl, q1 3 _ rfl, q1 4 _ rfl, q1 5 _ rfl⟩, ⟨q2 0 _ rfl, q2 1 _ rfl, q2 2 _ rfl, q2 3 _ rfl, q2 4 _ rfl, q2 5 _ rfl⟩⟩, hB0⟩
  clear q1 q2
  have hS : (((W0.cell? ⟨w.heap.size, 0, none⟩ = some (.int .i64 a0') ∧ W0.cell? ⟨w.heap.size, 1, none⟩ = some (.int .i64 b0') ∧ W0.cell? ⟨w.heap.size, 2, none⟩ = some (.int .i64 c0') ∧ W0.cell? ⟨w.heap.size, 3, none⟩ = some (.int .i64 d0') ∧ W0.cell? ⟨w.heap.size, 4, none⟩ = some (.int .i64 p0') ∧ W0.cell? ⟨w.heap.size, 5, none⟩ = some (.int .i64 s0')) ∧ (W0.cell? ⟨w.heap.size + 1, 0, none⟩ = some (.int .i64 a1') ∧ W0.cell? ⟨w.heap.size + 1, 1, none⟩ = some (.int .i64 b1') ∧ W0.cell? ⟨w.heap.size + 1, 2, none⟩ = some (.int .i64 c1') ∧ W0.cell? ⟨w.heap.size + 1, 3, none⟩ = some (.int .i64 d1') ∧ W0.cell? ⟨w.heap.size + 1, 4, none⟩ = some (.int .i64 p1') ∧ W0.cell? ⟨w.heap.size + 1, 5, none⟩ = some (.int .i64 s1'))) ∧ Below W0.heap.size W0 W0) := ⟨hS0.1, Below.refl _ _⟩
  clear hS0
  have keep : ∀ W1 W2, (((W1.cell? ⟨w.heap.size, 0, none⟩ = some (.int .i64 a0') ∧ W1.cell? ⟨w.heap.size, 1, none⟩ = some (.int .i64 b0') ∧ W1.cell? ⟨w.heap.size, 2, none⟩ = some (.int .i64 c0') ∧ W1.cell? ⟨w.heap.size, 3, none⟩ = some (.int .i64 d0') ∧ W1.cell? ⟨w.heap.size, 4, none⟩ = some (.int .i64 p0') ∧ W1.cell? ⟨w.heap.size, 5, none⟩ = some (.int .i64 s0')) ∧ (W1.cell? ⟨w.heap.size + 1, 0, none⟩ = some (.int .i64 a1') ∧ W1.cell? ⟨w.heap.size + 1, 1, none⟩ = some (.int .i64 b1') ∧ W1.cell? ⟨w.heap.size + 1, 2, none⟩ = some (.int .i64 c1') ∧ W1.cell? ⟨w.heap.size + 1, 3, none⟩ = some (.int .i64 d1') ∧ W1.cell? ⟨w.heap.size + 1, 4, none⟩ = some (.int .i64 p1') ∧ W1.cell? ⟨w.heap.size + 1, 5, none⟩ = some (.int .i64 s1'))) ∧ Below W0.heap.size W0 W1) → Below W1.heap.size W1 W2 → (((W2.cell? ⟨w.heap.size, 0, none⟩ = some (.int .i64 a0') ∧ W2.cell? ⟨w.heap.size, 1, none⟩ = some (.int .i64 b0') ∧ W2.cell? ⟨w.heap.size, 2, none⟩ = some (.int .i64 c0') ∧ W2.cell? ⟨w.heap.size, 3, none⟩ = some (.int .i64 d0') ∧ W2.cell? ⟨w.heap.size, 4, none⟩ = some (.int .i64 p0') ∧ W2.cell? ⟨w.heap.size, 5, none⟩ = some (.int .i64 s0')) ∧ (W2.cell? ⟨w.heap.size + 1, 0, none⟩ = some (.int .i64 a1') ∧ W2.cell? ⟨w.heap.size + 1, 1, none⟩ = some (.int .i64 b1') ∧ W2.cell? ⟨w.heap.size + 1, 2, none⟩ = some (.int .i64 c1') ∧ W2.cell? ⟨w.heap.size + 1, 3, none⟩ = some (.int .i64 d1') ∧ W2.cell? ⟨w.heap.size + 1, 4, none⟩ = some (.int .i64 p1') ∧ W2.cell? ⟨w.heap.size + 1, 5, none⟩ = some (.int .i64 s1'))) ∧ Below W0.heap.size W0 W2) := fun W1 W2 h1 h2 => by
    have h1s := h1.2.size
    have hsz' : w.heap.size + 1 + 1 ≤ W0.heap.size := hsz
    have hq0 : w.heap.size < W1.heap.size := by omega
    have hq1 : w.heap.size + 1 < W1.heap.size := by omega
    obtain ⟨⟨⟨h00, h01, h02, h03, h04, h05⟩, ⟨h10, h11, h12, h13, h14, h15⟩⟩, h1b⟩ := h1
    exact ⟨⟨⟨(h2.cell (p := ⟨w.heap.size, 0, none⟩) hq0).trans h00, (h2.cell (p := ⟨w.heap.size, 1, none⟩) hq0).trans h01, (h2.cell (p := ⟨w.heap.size, 2, none⟩) hq0).trans h02, (h2.cell (p := ⟨w.heap.size, 3, none⟩) hq0).trans h03, (h2.cell (p := ⟨w.heap.size, 4, none⟩) hq0).trans h04, (h2.cell (p := ⟨w.heap.size, 5, none⟩) hq0).trans h05⟩, ⟨(h2.cell (p := ⟨w.heap.size + 1, 0, none⟩) hq1).trans h10, (h2.cell (p := ⟨w.heap.size + 1, 1, none⟩) hq1).trans h11, (h2.cell (p := ⟨w.heap.size + 1, 2, none⟩) hq1).trans h12, (h2.cell (p := ⟨w.heap.size + 1, 3, none⟩) hq1).trans h13, (h2.cell (p := ⟨w.heap.size + 1, 4, none⟩) hq1).trans h14, (h2.cell (p := ⟨w.heap.size + 1, 5, none⟩) hq1).trans h15⟩⟩, h1b.trans (h2.mono h1s)⟩
  have keepH := Lib.hid keep
  clear keep
  go_region_held3 (fun w' => (((w'.cell? ⟨w.heap.size, 0, none⟩ = some (.int .i64 a0') ∧ w'.cell? ⟨w.heap.size, 1, none⟩ = some (.int .i64 b0') ∧ w'.cell? ⟨w.heap.size, 2, none⟩ = some (.int .i64 c0') ∧ w'.cell? ⟨w.heap.size, 3, none⟩ = some (.int .i64 d0') ∧ w'.cell? ⟨w.heap.size, 4, none⟩ = some (.int .i64 p0') ∧ w'.cell? ⟨w.heap.size, 5, none⟩ = some (.int .i64 s0')) ∧ (w'.cell? ⟨w.heap.size + 1, 0, none⟩ = some (.int .i64 a1') ∧ w'.cell? ⟨w.heap.size + 1, 1, none⟩ = some (.int .i64 b1') ∧ w'.cell? ⟨w.heap.size + 1, 2, none⟩ = some (.int .i64 c1') ∧ w'.cell? ⟨w.heap.size + 1, 3, none⟩ = some (.int .i64 d1') ∧ w'.cell? ⟨w.heap.size + 1, 4, none⟩ = some (.int .i64 p1') ∧ w'.cell? ⟨w.heap.size + 1, 5, none⟩ = some (.int .i64 s1'))) ∧ Below W0.heap.size W0 w'))
    (first | exact ⟨hS.1, belowN hS.2 1⟩ | exact keepH.out _ _ (by assumption) (by assumption) | assumption)
    (first | (go_at_call 16; (with_reducible refine (toArc_any _ _ _ _ _ _ _).mono ?_); rintro e w' ⟨rfl, hbel⟩) | (go_at_call 25; (with_reducible refine (specIsSmoothJoint_any _ _ _ _ _ _ _ _ _ _ _ _ _).mono ?_); rintro e w' ⟨rfl, hbel⟩))
  rename_i hHeld
  clear hS
  have hS := hHeld
  clear hHeld
  go_wp2
  go_region_held3 (fun w' => (((w'.cell? ⟨w.heap.size, 0, none⟩ = some (.int .i64 a0') ∧ w'.cell? ⟨w.heap.size, 1, none⟩ = some (.int .i64 b0') ∧ w'.cell? ⟨w.heap.size, 2, none⟩ = some (.int .i64 c0') ∧ w'.cell? ⟨w.heap.size, 3, none⟩ = some (.int .i64 d0') ∧ w'.cell? ⟨w.heap.size, 4, none⟩ = some (.int .i64 p0') ∧ w'.cell? ⟨w.heap.size, 5, none⟩ = some (.int .i64 s0')) ∧ (w'.cell? ⟨w.heap.size + 1, 0, none⟩ = some (.int .i64 a1') ∧ w'.cell? ⟨w.heap.size + 1, 1, none⟩ = some (.int .i64 b1') ∧ w'.cell? ⟨w.heap.size + 1, 2, none⟩ = some (.int .i64 c1') ∧ w'.cell? ⟨w.heap.size + 1, 3, none⟩ = some (.int .i64 d1') ∧ w'.cell? ⟨w.heap.size + 1, 4, none⟩ = some (.int .i64 p1') ∧ w'.cell? ⟨w.heap.size + 1, 5, none⟩ = some (.int .i64 s1'))) ∧ Below W0.heap.size W0 w'))
    (first | exact ⟨hS.1, belowN hS.2 1⟩ | exact keepH.out _ _ (by assumption) (by assumption) | assumption)
    (first | (go_at_call 16; (with_reducible refine (toArc_any _ _ _ _ _ _ _).mono ?_); rintro e w' ⟨rfl, hbel⟩) | (go_at_call 26; (with_reducible refine (implIsSmoothJoint_any _ _ _ _ _ _ _ _ _ _ _ _ _).mono ?_); rintro e w' ⟨rfl, hbel⟩))
  rename_i hHeld
  clear hS
  have hS := hHeld
  clear hHeld
  go_wp2
  go_ret
  exact ⟨rfl, below2' hB0 hS.2⟩


/-! ### THE ROW's STEP: WRITTEN OUT: LEAVE IT -/
set_option maxRecDepth 100000 in
theorem lifted (os : Os) (started : os.Started) (H : Type) (enc : TypeId × Value → H) :
    ReturnsInHanded {} Try.checked os 6 .any (Rows.fnExactIsSmoothJointSpec.pre6 enc Try.prog Try.f6 Rows.fnExactIsSmoothJointRow.domain false) (Rows.fnExactIsSmoothJointSpec.post enc Try.prog Try.f6 false true false false) := by
  refine returnsInHanded_of_change (C := Try.checked) own started (by kernel_rfl) Try.func6
    (ChangeSpec.witness6 (enc := enc) (C := Try.checked) false ⟨#[], #[.agg #[.int .i64 0, .int .i64 0, .int .i64 0, .int .i64 0, .int .i64 0, .int .i64 0], .agg #[.int .i64 0, .int .i64 0, .int .i64 0, .int .i64 0, .int .i64 0, .int .i64 0]], []⟩ 8 (by kernel_rfl) (by kernel_rfl) (by kernel_rfl) (by kernel_rfl)) ?_
  intro W base args ds gs before hval0 hW hcnd _
  have hval : ∀ (j : Nat) t v, Try.f6.params[j]? = some t → args[j]? = some v → Value.okWide Try.prog W .any base t v := hval0
  have hW' := hW
  obtain ⟨p, q, hA0, hV, rfl, hfz, hnd⟩ := hW
  have hA : DataW.TrodAll enc Try.prog W 0 (fun _ => true) true Try.f6.params.toList args.toList ds p := hA0
  rw [Try.params6] at hA hval
  obtain ⟨v0, vs0, d0, ds0, p0, q0, hargs, rfl, rfl, h0, r0⟩ := trodAll_cons hA
  obtain ⟨v1, vs1, d1, ds1, p1, q1, rfl, rfl, rfl, h1, r1⟩ := trodAll_cons r0
  obtain ⟨rfl, rfl, rfl⟩ := trodAll_nil r1
  obtain rfl : args = #[v0, v1] := by cases args; simp_all
  obtain ⟨rfl, rfl⟩ := trodVars_none hV
  have k0 := h0
  have lt0 : ∀ x ∈ p0, x.block < W.heap.size := by obtain ⟨m, hm⟩ := k0; exact DataW.trod_lt m _ _ _ hm
  have w0 : ArcV W v0 := arc_open (hval 0 25 v0 rfl rfl) h0
  have k1 := h1
  have lt1 : ∀ x ∈ p1, x.block < W.heap.size := by obtain ⟨m, hm⟩ := k1; exact DataW.trod_lt m _ _ _ hm
  have w1 : ArcV W v1 := arc_open (hval 1 25 v1 rfl rfl) h1
  clear hA0 hval0
  refine (walk v0 v1 W w0 w1).mono fun e W' ⟨he, bel⟩ => ?_
  subst he
  exact ⟨_, rfl, _, _, _, [], _, [], hW', trodAll_mk1 (shut_bool Try.underlying4 _), (trodAll_cons_mk (Below.trod laidOut (by kernel_rfl) (of_decide_eq_true (by kernel_rfl)) k0 bel lt0) (trodAll_cons_mk (Below.trod laidOut (by kernel_rfl) (of_decide_eq_true (by kernel_rfl)) k1 bel lt1) trodAll_mk0)), rfl, bel.frame _, fun h => by cases h⟩

theorem over : Rows.fnExactIsSmoothJointRow.holds Try.pinned (OpenSpec.ofChange Rows.fnExactIsSmoothJointSpec) :=
  OpenClaim.holds_of_wide 6 Try.f6 rfl rfl rfl rfl rfl rfl rfl ⟨rfl, rfl, rfl, rfl, rfl⟩ rfl rfl rfl rfl rfl (by kernel_rfl) Try.func6 (by kernel_rfl)
    (of_decide_eq_true (by kernel_rfl)) (by unfold Func.isWrapper; first | (rw [if_pos (by decide +kernel)]; kernel_rfl) | (rw [if_neg (by decide +kernel)]; exact ⟨rfl, rfl⟩))
    (fun os started H enc _ => lifted os started H enc)

/-- ████ THE STATEMENT ████ -/
theorem proved : Rows.FnExactIsSmoothJointSaid := over
#print axioms proved
end Go.Proofs.Ytdgkpghecfpgoaa.fnExactIsSmoothJoint
