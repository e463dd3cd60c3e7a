/-
  The law FnExactNearestNeck holds for every input: the function answers as its model; conditions: none beside the row's own.
-/
import Derived.Test.YtjkgdgohnkcemaaNckN
import Derived.Test.YtjkgdgohnkcemaaNckO
import Derived.Test.YtjkgdgohnkcemaaNcks3
import Derived.Lib.Hide
import Derived.Test.YtjkgdgohnkcemaaRows
import Derived.WalkKit
import Derived.ProofKit
import Derived.OpenShut
import Derived.ShutString
import Derived.ChangeOld
import Derived.Below
namespace Go.Proofs.Ytjkgdgohnkcemaa.fnExactNearestNeck
open Go.ChangeShapes Go.WideShapes Go.ChangeAt Go.RowKit
open Go.ChangeMaps (open_string shut_string)
set_option linter.unusedVariables false

theorem own : ownKnob Try.prog.godebug = none := by kernel_rfl
theorem laidOut : laidOutB Try.prog = true := by kernel_rfl

/-- WHAT THE WALK IS TOLD OF A SLICE OF INTEGERS THAT CAME IN: it is nil; or it leads to a row of 'cap' cells, the numbers 'zs' (the first 'len' are its elements, the rest its spare room), each fitting its kind. -/
def IsRow (k : IntKind) (w : World) (a : Option Addr) (len cap : Nat) (zs : List Int) : Prop :=
  (a = none ∧ len = 0 ∧ cap = 0 ∧ zs = []) ∨
  ∃ x, a = some x ∧ len ≤ cap ∧ cap ≤ maxLen ∧ zs.length = cap ∧ (∀ i, i < zs.length → w.cell? (x.add i) = some (.int k (zs.getD i 0))) ∧ ∀ n ∈ zs, (Lit.int k n).wf = true

/-! ### STEP 1: THE WALK: the Go text returns true, AND WRITES NOTHING THAT WAS THERE: 'Below w.heap.size w w'' (Derived/Below.lean: '.refl', '.alloc', '.drew', '.setCell' at a new block, '.trans'). Open each 'IsRow' by 'rcases' AHEAD of 'go_enter'; part every test ahead of the walk. -/
set_option maxHeartbeats 1000000 in
theorem walk (a0 : Value) (a1 : Value) (w : World) (w0 : NcksV w a0) (w1 : NckV w a1) :
    Calls Try.prog 13 #[a0, a1] w fun e w' => e = .returned (.bool true) ∧ Below w.heap.size w w' := by
  obtain ⟨Z, hZ, hZl⟩ := w0
  obtain ⟨a0', b0', c0', d0', rfl⟩ := w1
  have hZ' := Lib.hid hZ
  clear hZ
  go_enter Try.func13, Try.ntmps13
  go_wp2_with fail
  obtain ⟨q1, hB0, hsz⟩ := one_box w #[.int .i64 a0', .int .i64 b0', .int .i64 c0', .int .i64 d0'] 23
  generalize (w.alloc (.cells #[.int .i64 a0', .int .i64 b0', .int .i64 c0', .int .i64 d0'] 23)) = W0 at q1 hB0 hsz ⊢
  have hcell : Hid (∀ W, Below W0.heap.size W0 W → (W.cell? ⟨w.heap.size, 0, none⟩ = some (.int .i64 a0') ∧ W.cell? ⟨w.heap.size, 1, none⟩ = some (.int .i64 b0') ∧ W.cell? ⟨w.heap.size, 2, none⟩ = some (.int .i64 c0') ∧ W.cell? ⟨w.heap.size, 3, none⟩ = some (.int .i64 d0'))) := Lib.hid (fun W hb => ⟨(hb.cell (p := ⟨w.heap.size, 0, none⟩) hsz).trans (q1 0 _ rfl), (hb.cell (p := ⟨w.heap.size, 1, none⟩) hsz).trans (q1 1 _ rfl), (hb.cell (p := ⟨w.heap.size, 2, none⟩) hsz).trans (q1 2 _ rfl), (hb.cell (p := ⟨w.heap.size, 3, none⟩) hsz).trans (q1 3 _ rfl)⟩)
  have hZ0 : Hid (∀ W, Below W0.heap.size W0 W → NcksAt W a0 Z) := Lib.hid (fun W hb => hZ'.out.below (hB0.trans (hb.mono hB0.size)))
  clear q1 hZ'
  refine (szNeckS_any a0 Z _ hZl (hZ0.out _ (Below.refl _ _))).mono ?_
  rintro e u1 ⟨n, rfl, hn0, hn1, hn2, d1⟩
  by_cases hneg : n < 0
  · go_wp2
    go_ret
    exact ⟨rfl, hB0.trans (d1.mono hB0.size)⟩
  obtain ⟨hlen, hids⟩ := hn2 (by omega)
  have hlen' := Lib.hid hlen
  clear hids hlen hZl
  have keepH : Hid (∀ W1 W2, (((W1.cell? ⟨w.heap.size, 0, none⟩ = some (.int .i64 a0') ∧ W1.cell? ⟨w.heap.size, 1, none⟩ = some (.int .i64 b0') ∧ W1.cell? ⟨w.heap.size, 2, none⟩ = some (.int .i64 c0') ∧ W1.cell? ⟨w.heap.size, 3, none⟩ = some (.int .i64 d0'))) ∧ Below W0.heap.size W0 W1) → Below W1.heap.size W1 W2 → (((W2.cell? ⟨w.heap.size, 0, none⟩ = some (.int .i64 a0') ∧ W2.cell? ⟨w.heap.size, 1, none⟩ = some (.int .i64 b0') ∧ W2.cell? ⟨w.heap.size, 2, none⟩ = some (.int .i64 c0') ∧ W2.cell? ⟨w.heap.size, 3, none⟩ = some (.int .i64 d0'))) ∧ Below W0.heap.size W0 W2)) := Lib.hid (fun W1 W2 h1 h2 => ⟨hcell.out W2 (h1.2.trans (h2.mono h1.2.size)), h1.2.trans (h2.mono h1.2.size)⟩)
  have hS : (((u1.cell? ⟨w.heap.size, 0, none⟩ = some (.int .i64 a0') ∧ u1.cell? ⟨w.heap.size, 1, none⟩ = some (.int .i64 b0') ∧ u1.cell? ⟨w.heap.size, 2, none⟩ = some (.int .i64 c0') ∧ u1.cell? ⟨w.heap.size, 3, none⟩ = some (.int .i64 d0'))) ∧ Below W0.heap.size W0 u1) := ⟨hcell.out u1 d1, d1⟩
  clear d1
  go_wp2_with fail
  go_region_held3 (fun w' => (((w'.cell? ⟨w.heap.size, 0, none⟩ = some (.int .i64 a0') ∧ w'.cell? ⟨w.heap.size, 1, none⟩ = some (.int .i64 b0') ∧ w'.cell? ⟨w.heap.size, 2, none⟩ = some (.int .i64 c0') ∧ w'.cell? ⟨w.heap.size, 3, none⟩ = some (.int .i64 d0'))) ∧ Below W0.heap.size W0 w'))
    (first | exact ⟨hS.1, belowN hS.2 1⟩ | exact keepH.out _ _ (by assumption) (by assumption) | assumption)
    (first
      | (go_at_call 41; (refine (toNeckS_any a0 Z _ hlen'.out (hZ0.out _ (by first | exact (belowN hS.2 1) | assumption))).mono ?_); rintro e u2 ⟨v2, rfl, p2, hbel⟩)
      | (go_at_call 16; (refine (toNeck_any _ _ _ _ _).mono ?_); rintro e u2b ⟨rfl, hbel⟩; have p2b := p2.below hbel)
      | (go_at_call 40; (refine (specNearestNeck_any _ Z a0' b0' c0' d0' _ hlen'.out p2b).mono ?_); rintro e u3 ⟨rfl, hbel⟩))
  rename_i hHeld
  have D3 := hHeld.2
  clear hHeld hS keepH
  go_wp2_with fail
  refine (toNeckS_any a0 Z _ hlen'.out (hZ0.out _ D3)).mono ?_
  rintro e u4 ⟨v4, rfl, p4, d4⟩
  have D4 := D3.trans (d4.mono D3.size)
  clear d4 D3
  obtain ⟨c0, c1, c2, c3⟩ := hcell.out _ D4
  go_wp2_with fail
  refine (toNeck_any _ _ _ _ _).mono ?_
  rintro e u4b ⟨rfl, d4b⟩
  have D4b := D4.trans (d4b.mono D4.size)
  have p4b := p4.below d4b
  clear d4b D4 p4 c0 c1 c2 c3
  go_wp2_with fail
  refine (implNearestNeck_any v4 Z a0' b0' c0' d0' _ hlen'.out p4b).mono ?_
  rintro e u5 ⟨rfl, d5⟩
  have D5 := D4b.trans (d5.mono D4b.size)
  have p5 := p4b.below d5
  clear d5 D4b p4b
  go_wp2_with fail
  refine (toNeckS_any a0 Z _ hlen'.out (hZ0.out _ D5)).mono ?_
  rintro e u6 ⟨v6, rfl, p6, d6⟩
  have D6 := D5.trans (d6.mono D5.size)
  have p56 := p5.below d6
  clear d6 D5 p5
  go_wp2_with fail
  refine (eqNeckS_any v4 v6 Z _ hlen'.out p56 p6).mono ?_
  rintro e u7 ⟨rfl, d7⟩
  have D7 := D6.trans (d7.mono D6.size)
  clear d7 D6 p56 p6
  go_wp2
  go_ret
  exact ⟨rfl, hB0.trans (D7.mono hB0.size)⟩


/-! ### THE ROW's STEP: WRITTEN OUT: LEAVE IT -/
set_option maxRecDepth 100000 in
theorem lifted (os : Os) (started : os.Started) (H : Type) (enc : TypeId × Value → H) :
    ReturnsInHanded {} Try.checked os 13 .any (Rows.fnExactNearestNeckSpec.pre6 enc Try.prog Try.f13 Rows.fnExactNearestNeckRow.domain false) (Rows.fnExactNearestNeckSpec.post enc Try.prog Try.f13 false true false false) := by
  refine returnsInHanded_of_change (C := Try.checked) own started (by kernel_rfl) Try.func13
    (ChangeSpec.witness6 (enc := enc) (C := Try.checked) false ⟨#[], #[.slice none 0 0, .agg #[.int .i64 0, .int .i64 0, .int .i64 0, .int .i64 0]], []⟩ 8 (by kernel_rfl) (by kernel_rfl) (by kernel_rfl) (by kernel_rfl)) ?_
  intro W base args ds gs before hval0 hW hcnd _
  have hval : ∀ (j : Nat) t v, Try.f13.params[j]? = some t → args[j]? = some v → Value.okWide Try.prog W .any base t v := hval0
  have hW' := hW
  obtain ⟨p, q, hA0, hV, rfl, hfz, hnd⟩ := hW
  have hA : DataW.TrodAll enc Try.prog W 0 (fun _ => true) true Try.f13.params.toList args.toList ds p := hA0
  rw [Try.params13] at hA hval
  obtain ⟨v0, vs0, d0, ds0, p0, q0, hargs, rfl, rfl, h0, r0⟩ := trodAll_cons hA
  obtain ⟨v1, vs1, d1, ds1, p1, q1, rfl, rfl, rfl, h1, r1⟩ := trodAll_cons r0
  obtain ⟨rfl, rfl, rfl⟩ := trodAll_nil r1
  obtain rfl : args = #[v0, v1] := by cases args; simp_all
  obtain ⟨rfl, rfl⟩ := trodVars_none hV
  have k0 := h0
  have lt0 : ∀ x ∈ p0, x.block < W.heap.size := by obtain ⟨m, hm⟩ := k0; exact DataW.trod_lt m _ _ _ hm
  have w0 : NcksV W v0 := ncks_open (hval 0 42 v0 rfl rfl) h0
  have k1 := h1
  have lt1 : ∀ x ∈ p1, x.block < W.heap.size := by obtain ⟨m, hm⟩ := k1; exact DataW.trod_lt m _ _ _ hm
  have w1 : NckV W v1 := nck_open (hval 1 23 v1 rfl rfl) h1
  clear hA0 hval0
  refine (walk v0 v1 W w0 w1).mono fun e W' ⟨he, bel⟩ => ?_
  subst he
  exact ⟨_, rfl, _, _, _, [], _, [], hW', trodAll_mk1 (shut_bool Try.underlying4 _), (trodAll_cons_mk (Below.trod laidOut (by kernel_rfl) (of_decide_eq_true (by kernel_rfl)) k0 bel lt0) (trodAll_cons_mk (Below.trod laidOut (by kernel_rfl) (of_decide_eq_true (by kernel_rfl)) k1 bel lt1) trodAll_mk0)), rfl, bel.frame _, fun h => by cases h⟩

theorem over : Rows.fnExactNearestNeckRow.holds Try.pinned (OpenSpec.ofChange Rows.fnExactNearestNeckSpec) :=
  OpenClaim.holds_of_wide 13 Try.f13 rfl rfl rfl rfl rfl rfl rfl ⟨rfl, rfl, rfl, rfl, rfl⟩ rfl rfl rfl rfl rfl (by kernel_rfl) Try.func13 (by kernel_rfl)
    (of_decide_eq_true (by kernel_rfl)) (by unfold Func.isWrapper; first | (rw [if_pos (by decide +kernel)]; kernel_rfl) | (rw [if_neg (by decide +kernel)]; exact ⟨rfl, rfl⟩))
    (fun os started H enc _ => lifted os started H enc)

/-- ████ THE STATEMENT ████ -/
theorem proved : Rows.FnExactNearestNeckSaid := over
#print axioms proved
end Go.Proofs.Ytjkgdgohnkcemaa.fnExactNearestNeck
