/-
  The law FnExactStretchRibs holds for every input: the function answers as its model; conditions: none beside the row's own.
-/
import Derived.Test.YtgbjdjkmmmgnnaaStrI
import Derived.Test.YtgbjdjkmmmgnnaaStrS
import Derived.Test.YtgbjdjkmmmgnnaaRibsO
import Derived.Lib.Hide
import Derived.Test.YtgbjdjkmmmgnnaaRows
import Derived.WalkKit
import Derived.ProofKit
import Derived.OpenShut
import Derived.ShutString
import Derived.ChangeOld
import Derived.Below
namespace Go.Proofs.Ytgbjdjkmmmgnnaa.fnExactStretchRibs
open Go.ChangeShapes Go.WideShapes Go.ChangeAt Go.RowKit
open Go.ChangeMaps (open_string shut_string)
set_option linter.unusedVariables false

theorem own : ownKnob Try.prog.godebug = none := by kernel_rfl
theorem laidOut : laidOutB Try.prog = true := by kernel_rfl

/-- WHAT THE WALK IS TOLD OF A SLICE OF INTEGERS THAT CAME IN: it is nil; or it leads to a row of 'cap' cells, the numbers 'zs' (the first 'len' are its elements, the rest its spare room), each fitting its kind. -/
def IsRow (k : IntKind) (w : World) (a : Option Addr) (len cap : Nat) (zs : List Int) : Prop :=
  (a = none ∧ len = 0 ∧ cap = 0 ∧ zs = []) ∨
  ∃ x, a = some x ∧ len ≤ cap ∧ cap ≤ maxLen ∧ zs.length = cap ∧ (∀ i, i < zs.length → w.cell? (x.add i) = some (.int k (zs.getD i 0))) ∧ ∀ n ∈ zs, (Lit.int k n).wf = true

/-! ### STEP 1: THE WALK: the Go text returns true, AND WRITES NOTHING THAT WAS THERE: 'Below w.heap.size w w'' (Derived/Below.lean: '.refl', '.alloc', '.drew', '.setCell' at a new block, '.trans'). Open each 'IsRow' by 'rcases' AHEAD of 'go_enter'; part every test ahead of the walk. -/
set_option maxHeartbeats 1000000 in
theorem walk (a0 : Value) (a1 : Int) (w : World) (w0 : RibsV w a0) (w1 : (Lit.int .i64 a1).wf = true) :
    Calls Try.prog 7 #[a0, .int .i64 a1] w fun e w' => e = .returned (.bool true) ∧ Below w.heap.size w w' := by
  obtain ⟨Z, hZ, hZl⟩ := w0
  have hZ' := Lib.hid hZ
  clear hZ
  go_enter Try.func7, Try.ntmps7
  go_wp2_with fail
  refine (szRibS_any a0 Z _ hZl hZ'.out).mono ?_
  rintro e u1 ⟨n, rfl, hn0, hn1, hn2, d1⟩
  by_cases hneg : n < 0
  · go_wp2
    go_ret
    exact ⟨rfl, d1⟩
  obtain ⟨hlen, hids⟩ := hn2 (by omega)
  have hlen' := Lib.hid hlen
  have hl16 := strV_len Z a1
  have cs := fun W V (h : RibsAt W V Z) => specStretchRibs_any V Z a1 W hlen h
  have ci := fun W V (h : RibsAt W V Z) => implStretchRibs_any V Z a1 W hlen h
  obtain ⟨LL, hLL⟩ : ∃ LL, LL = strV Z a1 := ⟨_, rfl⟩
  obtain ⟨cc, hcc⟩ : ∃ cc, cc = strC Z a1 := ⟨_, rfl⟩
  rw [← hLL, ← hcc] at cs ci
  rw [← hLL] at hl16
  have cs' := Lib.hid cs
  have ci' := Lib.hid ci
  clear hids hZl cs ci hLL hcc hlen
  go_wp2_with fail
  refine (toRibS_any a0 Z _ hlen'.out (hZ'.out.below d1)).mono ?_
  rintro e u2 ⟨v2, rfl, p2, d2⟩
  have D2 := d1.trans (d2.mono d1.size)
  go_wp2_with fail
  refine (cs'.out _ _ p2).mono ?_
  rintro e u3 ⟨v3, rfl, o3, d3⟩
  have D3 := D2.trans (d3.mono D2.size)
  clear d1 d2 d3 D2 p2
  go_wp2_with fail
  refine (toRibS_new a0 Z _ hlen'.out (hZ'.out.below D3)).mono ?_
  rintro e u4 ⟨rfl, p4, th4, lt4, d4⟩
  have o34 := o3.below d4
  have ap3x : v3.ownBlock = none ∨ v3.ownBlock ≠ some u3.heap.size := Or.inr (fun h => by have := (o3.lt _ h).2; omega)
  have hx3 : w.heap.size ≤ u3.heap.size := D3.size
  have D4 := D3.trans (d4.mono D3.size)
  clear d4 D3 o3
  go_wp2_with fail
  refine (ci'.out _ _ p4).mono ?_
  rintro e u5 ⟨v5, rfl, o5, d5⟩
  have o35 := o34.below d5
  have ap35 := o34.apart o5
  have ap5x : v5.ownBlock = none ∨ v5.ownBlock ≠ some u3.heap.size := Or.inr (fun h => by have := (o5.lt _ h).1; omega)
  have ge5 : ∀ k, v5.ownBlock = some k → w.heap.size ≤ k := fun k hk => Nat.le_trans D4.size (o5.lt k hk).1
  have G5 := Lib.hid ge5
  have D5 := D4.trans (d5.mono D4.size)
  have p5 := p4.below d5
  have th5 := there_below th4 lt4 d5
  have lt5 := Nat.lt_of_lt_of_le lt4 d5.size
  clear D4 o34 ge5 p4 th4 lt4 d5
  go_wp2_with fail
  refine (eqRibS_any v5 v3 LL _ (by omega) o5.1 o35.1).mono ?_
  rintro e u6 ⟨rfl, d6⟩
  have o36 := o35.below d6
  have o56 := o5.below d6
  have p6 := p5.below d6
  have th6 := there_below th5 lt5 d6
  have lt6 := Nat.lt_of_lt_of_le lt5 d6.size
  have D6 := D5.trans (d6.mono D5.size)
  clear d6 D5 o35 o5 p5 th5 lt5
  go_wp2_with fail
  refine (toRibS_any a0 Z _ hlen'.out (hZ'.out.below D6)).mono ?_
  rintro e u7 ⟨v7, rfl, p7, d7⟩
  have p67 := p6.below d7
  have o37 := o36.below d7
  have o57 := o56.below d7
  have th7 := there_below th6 lt6 d7
  have lt7 := Nat.lt_of_lt_of_le lt6 d7.size
  have D7 := D6.trans (d7.mono D6.size)
  clear d7 D6 o36 o56 p6 th6 lt6
  go_wp2_with fail
  refine (eqRibS_any _ v7 Z _ hlen'.out p67 p7).mono ?_
  rintro e u8 ⟨rfl, d8⟩
  have o38 := o37.below d8
  have o58 := o57.below d8
  have th8 := there_below th7 lt7 d8
  have lt8 := Nat.lt_of_lt_of_le lt7 d8.size
  have D8 := D7.trans (d8.mono D7.size)
  clear d8 D7 o37 o57 p67 p7 th7 lt7
  have hlen2 := hlen'.out
  go_wp2_with fail
  refine (markRibS_any u3.heap.size Z.length Z.length 1 u8 (by omega) (by omega) (by omega) lt8 th8).mono ?_
  rintro e u9 ⟨rfl, g9⟩
  have o39 := o38.grown g9 ap3x
  have o59 := o58.grown g9 ap5x
  have D9 := Lib.hid (D8.grown g9 D8.size (fun k hk => by cases hk; exact hx3))
  clear o38 o58 g9 D8 ap3x ap5x hx3 th8 lt8
  go_wp2_with fail
  refine (eqRibS_any v5 v3 LL _ (by omega) o59.1 o39.1).mono ?_
  rintro e u10 ⟨rfl, d10⟩
  have o310 := o39.below d10
  have o510 := o59.below d10
  have D10 := Lib.hid (D9.out.trans (d10.mono D9.out.size))
  clear d10 D9 o39 o59
  go_wp2_with fail
  refine (markRibS_own v5 LL 1 _ _ (by omega) (by omega) (by omega) o510).mono ?_
  rintro e u11 ⟨rfl, m11, g11⟩
  have o311 := o310.grown g11 ap35
  have D11 := Lib.hid (D10.out.grown g11 D10.out.size G5.out)
  clear o310 o510 g11 ap35 D10
  go_wp2_with fail
  refine (heldRibS_own v5 LL.length 1 _ (by omega) (by omega) (by omega) m11).mono ?_
  rintro e u12b ⟨rfl, bN⟩
  have oN := o311.below bN
  have mN := m11.below bN
  have DN := Lib.hid (D11.out.trans (bN.mono D11.out.size))
  clear o311 m11 bN D11
  go_wp2_with fail
  refine (toRibS_any a0 Z _ hlen'.out (hZ'.out.below DN.out)).mono ?_
  rintro e u12 ⟨v12, rfl, p12, d12⟩
  have o312 := oN.below d12
  have m12 := mN.below d12
  have D12 := Lib.hid (DN.out.trans (d12.mono DN.out.size))
  clear oN mN d12 DN
  go_wp2_with fail
  refine (ci'.out _ _ p12).mono ?_
  rintro e u13 ⟨v13, rfl, o13, d13⟩
  have o313 := o312.below d13
  have m13 := m12.below d13
  have D13 := Lib.hid (D12.out.trans (d13.mono D12.out.size))
  clear o312 m12 d13 D12 p12
  go_wp2_with fail
  refine (eqRibS_any v13 v3 LL _ (by omega) o13.1 o313.1).mono ?_
  rintro e u14 ⟨rfl, d14⟩
  have m14 := m13.below d14
  have D14 := Lib.hid (D13.out.trans (d14.mono D13.out.size))
  clear o13 o313 m13 d14 D13
  go_wp2_with fail
  refine (heldRibS_own v5 LL.length 1 _ (by omega) (by omega) (by omega) m14).mono ?_
  rintro e u15b ⟨rfl, b15⟩
  have D15 := D14.out.trans (b15.mono D14.out.size)
  clear m14
  go_wp2
  go_ret
  exact ⟨rfl, D15⟩


/-! ### THE ROW's STEP: WRITTEN OUT: LEAVE IT -/
set_option maxRecDepth 100000 in
theorem lifted (os : Os) (started : os.Started) (H : Type) (enc : TypeId × Value → H) :
    ReturnsInHanded {} Try.checked os 7 .any (Rows.fnExactStretchRibsSpec.pre6 enc Try.prog Try.f7 Rows.fnExactStretchRibsRow.domain false) (Rows.fnExactStretchRibsSpec.post enc Try.prog Try.f7 false true false false) := by
  refine returnsInHanded_of_change (C := Try.checked) own started (by kernel_rfl) Try.func7
    (ChangeSpec.witness6 (enc := enc) (C := Try.checked) false ⟨#[], #[.slice none 0 0, .int .i64 0], []⟩ 8 (by kernel_rfl) (by kernel_rfl) (by kernel_rfl) (by kernel_rfl)) ?_
  intro W base args ds gs before hval0 hW hcnd _
  have hval : ∀ (j : Nat) t v, Try.f7.params[j]? = some t → args[j]? = some v → Value.okWide Try.prog W .any base t v := hval0
  have hW' := hW
  obtain ⟨p, q, hA0, hV, rfl, hfz, hnd⟩ := hW
  have hA : DataW.TrodAll enc Try.prog W 0 (fun _ => true) true Try.f7.params.toList args.toList ds p := hA0
  rw [Try.params7] at hA hval
  obtain ⟨v0, vs0, d0, ds0, p0, q0, hargs, rfl, rfl, h0, r0⟩ := trodAll_cons hA
  obtain ⟨v1, vs1, d1, ds1, p1, q1, rfl, rfl, rfl, h1, r1⟩ := trodAll_cons r0
  obtain ⟨rfl, rfl, rfl⟩ := trodAll_nil r1
  obtain rfl : args = #[v0, v1] := by cases args; simp_all
  obtain ⟨rfl, rfl⟩ := trodVars_none hV
  have k0 := h0
  have lt0 : ∀ x ∈ p0, x.block < W.heap.size := by obtain ⟨m, hm⟩ := k0; exact DataW.trod_lt m _ _ _ hm
  have w0 : RibsV W v0 := ribs_open (hval 0 22 v0 rfl rfl) h0
  obtain ⟨a1, rfl, rfl, rfl, w1⟩ := open_int Try.underlying2 (hval 1 2 v1 rfl rfl) h1
  clear hA0 hval0
  refine (walk v0 a1 W w0 w1).mono fun e W' ⟨he, bel⟩ => ?_
  subst he
  exact ⟨_, rfl, _, _, _, [], _, [], hW', trodAll_mk1 (shut_bool Try.underlying4 _), (trodAll_cons_mk (Below.trod laidOut (by kernel_rfl) (of_decide_eq_true (by kernel_rfl)) k0 bel lt0) (trodAll_cons_mk (shut_int Try.underlying2 w1) trodAll_mk0)), rfl, bel.frame _, fun h => by cases h⟩

theorem over : Rows.fnExactStretchRibsRow.holds Try.pinned (OpenSpec.ofChange Rows.fnExactStretchRibsSpec) :=
  OpenClaim.holds_of_wide 7 Try.f7 rfl rfl rfl rfl rfl rfl rfl ⟨rfl, rfl, rfl, rfl, rfl⟩ rfl rfl rfl rfl rfl (by kernel_rfl) Try.func7 (by kernel_rfl)
    (of_decide_eq_true (by kernel_rfl)) (by unfold Func.isWrapper; first | (rw [if_pos (by decide +kernel)]; kernel_rfl) | (rw [if_neg (by decide +kernel)]; exact ⟨rfl, rfl⟩))
    (fun os started H enc _ => lifted os started H enc)

/-- ████ THE STATEMENT ████ -/
theorem proved : Rows.FnExactStretchRibsSaid := over
#print axioms proved
end Go.Proofs.Ytgbjdjkmmmgnnaa.fnExactStretchRibs
