/-
  The law FnExactStrongestCoat holds for every input: the function answers as its model; conditions: none beside the row's own.
-/
import Derived.Test.YtjnpladpegmiiaaStc
import Derived.Test.YtjnpladpegmiiaaCtsW
import Derived.Test.YtjnpladpegmiiaaCtsM
import Derived.Test.YtjnpladpegmiiaaRowE
import Derived.Lib.Hide
import Derived.Test.YtjnpladpegmiiaaRows
import Derived.WalkKit
import Derived.ProofKit
import Derived.OpenShut
import Derived.ShutString
import Derived.ChangeOld
import Derived.Below
namespace Go.Proofs.Ytjnpladpegmiiaa.fnExactStrongestCoat
open Go.ChangeShapes Go.WideShapes Go.ChangeAt Go.RowKit
open Go.ChangeMaps (open_string shut_string)
set_option linter.unusedVariables false

theorem own : ownKnob Try.prog.godebug = none := by kernel_rfl
theorem laidOut : laidOutB Try.prog = true := by kernel_rfl

/-- WHAT THE WALK IS TOLD OF A SLICE OF INTEGERS THAT CAME IN: it is nil; or it leads to a row of 'cap' cells, the numbers 'zs' (the first 'len' are its elements, the rest its spare room), each fitting its kind. -/
def IsRow (k : IntKind) (w : World) (a : Option Addr) (len cap : Nat) (zs : List Int) : Prop :=
  (a = none ∧ len = 0 ∧ cap = 0 ∧ zs = []) ∨
  ∃ x, a = some x ∧ len ≤ cap ∧ cap ≤ maxLen ∧ zs.length = cap ∧ (∀ i, i < zs.length → w.cell? (x.add i) = some (.int k (zs.getD i 0))) ∧ ∀ n ∈ zs, (Lit.int k n).wf = true

/-! ### STEP 1: THE WALK: the Go text returns true, AND WRITES NOTHING THAT WAS THERE: 'Below w.heap.size w w'' (Derived/Below.lean: '.refl', '.alloc', '.drew', '.setCell' at a new block, '.trans'). Open each 'IsRow' by 'rcases' AHEAD of 'go_enter'; part every test ahead of the walk. -/
set_option maxHeartbeats 1000000 in
theorem walk (a0 : Value) (w : World) (w0 : CtsV w a0) :
    Calls Try.prog 9 #[a0] w fun e w' => e = .returned (.bool true) ∧ Below w.heap.size w w' := by
  obtain ⟨Z0, hZ0, hZl0⟩ := w0
  have hZ0' := Lib.hid hZ0
  clear hZ0
  go_enter Try.func9, Try.ntmps9
  go_wp2_with fail
  refine (szCoatS_any a0 Z0 _ hZl0 hZ0'.out).mono ?_
  rintro e u1 ⟨n, rfl, hn0, hn1, hn2, d1⟩
  by_cases hneg : n < 0
  · go_wp2
    go_ret
    exact ⟨rfl, d1⟩
  have D1 := Lib.hid d1
  have s1 := Lib.hid (d1.size)
  clear d1
  obtain ⟨hzl, hids⟩ := hn2 (by omega)
  have hz0 := Lib.hid hzl
  have hzn0 : Z0.length ≤ 1048576 := by omega
  clear hn2 hids hzl hZl0
  have cs := fun V0 W (h0 : CtsAt W V0 Z0) => specStrongestCoat_any V0 Z0 W hzn0 h0
  have ci := fun V0 W (h0 : CtsAt W V0 Z0) => implStrongestCoat_any V0 Z0 W hzn0 h0
  obtain ⟨R0, hR0⟩ : ∃ R0, R0 = strV Z0 := ⟨_, rfl⟩
  rw [← hR0] at cs ci
  clear hR0
  obtain ⟨R1, hR1⟩ : ∃ R1, R1 = strC Z0 := ⟨_, rfl⟩
  rw [← hR1] at cs ci
  clear hR1
  have cs' := Lib.hid cs
  have ci' := Lib.hid ci
  clear cs ci
  go_wp2_with fail
  refine (toCoatS_new a0 Z0 _ hz0.out (hZ0'.out.below D1.out)).mono ?_
  rintro e u2 ⟨us2, rfl, O2, r2, d2⟩
  have D2 := Lib.hid (D1.out.trans (d2.mono D1.out.size))
  have s2 := Lib.hid (d2.size)
  clear D1
  clear d2
  replace r2 := Lib.hid r2
  clear O2
  go_wp2_with fail
  refine (cs'.out _ _ r2.out).mono ?_
  rintro e u3 ⟨rfl, d3⟩
  have D3 := Lib.hid (D2.out.trans (d3.mono D2.out.size))
  have s3 := Lib.hid (d3.size)
  replace r2 := Lib.hid (r2.out.below d3)
  clear D2
  clear d3
  clear r2
  go_wp2_with fail
  refine (toCoatS_new a0 Z0 _ hz0.out (hZ0'.out.below D3.out)).mono ?_
  rintro e u4 ⟨us4, rfl, O4, r4, d4⟩
  have D4 := Lib.hid (D3.out.trans (d4.mono D3.out.size))
  have s4 := Lib.hid (d4.size)
  clear D3
  clear d4
  replace r4 := Lib.hid r4
  clear O4
  go_wp2_with fail
  refine (ci'.out _ _ r4.out).mono ?_
  rintro e u5 ⟨rfl, d5⟩
  have D5 := Lib.hid (D4.out.trans (d5.mono D4.out.size))
  have s5 := Lib.hid (d5.size)
  replace r4 := Lib.hid (r4.out.below d5)
  clear D4
  clear d5
  go_wp2_with fail
  refine (toCoatS_new a0 Z0 _ hz0.out (hZ0'.out.below D5.out)).mono ?_
  rintro e u6 ⟨us6, rfl, O6, r6, d6⟩
  have D6 := Lib.hid (D5.out.trans (d6.mono D5.out.size))
  have s6 := Lib.hid (d6.size)
  replace r4 := Lib.hid (r4.out.below d6)
  clear D5
  clear d6
  replace r6 := Lib.hid r6
  clear O6
  go_wp2_with fail
  refine (eqCoatS_any _ _ Z0 _ hz0.out r4.out r6.out).mono ?_
  rintro e u7 ⟨rfl, d7⟩
  have D7 := Lib.hid (D6.out.trans (d7.mono D6.out.size))
  have s7 := Lib.hid (d7.size)
  replace r4 := Lib.hid (r4.out.below d7)
  replace r6 := Lib.hid (r6.out.below d7)
  clear D6
  clear d7
  clear r6
  go_wp2
  go_ret
  exact ⟨rfl, by have := D7.out; first | exact this | simpa only [World.drewN_drewN] using this⟩


/-! ### THE ROW's STEP: WRITTEN OUT: LEAVE IT -/
set_option maxRecDepth 100000 in
theorem lifted (os : Os) (started : os.Started) (H : Type) (enc : TypeId × Value → H) :
    ReturnsInHanded {} Try.checked os 9 .any (Rows.fnExactStrongestCoatSpec.pre6 enc Try.prog Try.f9 Rows.fnExactStrongestCoatRow.domain false) (Rows.fnExactStrongestCoatSpec.post enc Try.prog Try.f9 false true false false) := by
  refine returnsInHanded_of_change (C := Try.checked) own started (by kernel_rfl) Try.func9
    (ChangeSpec.witness6 (enc := enc) (C := Try.checked) false ⟨#[], #[.slice none 0 0], []⟩ 8 (by kernel_rfl) (by kernel_rfl) (by kernel_rfl) (by kernel_rfl)) ?_
  intro W base args ds gs before hval0 hW hcnd _
  have hval : ∀ (j : Nat) t v, Try.f9.params[j]? = some t → args[j]? = some v → Value.okWide Try.prog W .any base t v := hval0
  have hW' := hW
  obtain ⟨p, q, hA0, hV, rfl, hfz, hnd⟩ := hW
  have hA : DataW.TrodAll enc Try.prog W 0 (fun _ => true) true Try.f9.params.toList args.toList ds p := hA0
  rw [Try.params9] at hA hval
  obtain ⟨v0, vs0, d0, ds0, p0, q0, hargs, rfl, rfl, h0, r0⟩ := trodAll_cons hA
  obtain ⟨rfl, rfl, rfl⟩ := trodAll_nil r0
  obtain rfl : args = #[v0] := by cases args; simp_all
  obtain ⟨rfl, rfl⟩ := trodVars_none hV
  have k0 := h0
  have lt0 : ∀ x ∈ p0, x.block < W.heap.size := by obtain ⟨m, hm⟩ := k0; exact DataW.trod_lt m _ _ _ hm
  have w0 : CtsV W v0 := cts_open (hval 0 22 v0 rfl rfl) h0
  clear hA0 hval0
  refine (walk v0 W w0).mono fun e W' ⟨he, bel⟩ => ?_
  subst he
  exact ⟨_, rfl, _, _, _, [], _, [], hW', trodAll_mk1 (shut_bool Try.underlying4 _), (trodAll_cons_mk (Below.trod laidOut (by kernel_rfl) (of_decide_eq_true (by kernel_rfl)) k0 bel lt0) trodAll_mk0), rfl, bel.frame _, fun h => by cases h⟩

theorem over : Rows.fnExactStrongestCoatRow.holds Try.pinned (OpenSpec.ofChange Rows.fnExactStrongestCoatSpec) :=
  OpenClaim.holds_of_wide 9 Try.f9 rfl rfl rfl rfl rfl rfl rfl ⟨rfl, rfl, rfl, rfl, rfl⟩ rfl rfl rfl rfl rfl (by kernel_rfl) Try.func9 (by kernel_rfl)
    (of_decide_eq_true (by kernel_rfl)) (by unfold Func.isWrapper; first | (rw [if_pos (by decide +kernel)]; kernel_rfl) | (rw [if_neg (by decide +kernel)]; exact ⟨rfl, rfl⟩))
    (fun os started H enc _ => lifted os started H enc)

/-- ████ THE STATEMENT ████ -/
theorem proved : Rows.FnExactStrongestCoatSaid := over
#print axioms proved
end Go.Proofs.Ytjnpladpegmiiaa.fnExactStrongestCoat
