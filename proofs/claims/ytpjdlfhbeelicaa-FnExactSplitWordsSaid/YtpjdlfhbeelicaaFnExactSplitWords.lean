/-
  The law FnExactSplitWords holds for every input: the function answers as its model; conditions: none beside the row's own.
-/
import Derived.Test.YtpjdlfhbeelicaaMark
import Derived.Test.YtpjdlfhbeelicaaWords
import Derived.Lib.Hide
import Derived.Test.YtpjdlfhbeelicaaRows
import Derived.WalkKit
import Derived.ProofKit
import Derived.OpenShut
import Derived.ShutString
import Derived.ChangeOld
import Derived.Below
namespace Go.Proofs.Ytpjdlfhbeelicaa.fnExactSplitWords
open Go.ChangeShapes Go.WideShapes Go.ChangeAt Go.RowKit
open Go.ChangeMaps (open_string shut_string)
set_option linter.unusedVariables false

theorem own : ownKnob Try.prog.godebug = none := by kernel_rfl
theorem laidOut : laidOutB Try.prog = true := by kernel_rfl

/-- WHAT THE WALK IS TOLD OF A SLICE OF INTEGERS THAT CAME IN: it is nil; or it leads to a row of 'cap' cells, the numbers 'zs' (the first 'len' are its elements, the rest its spare room), each fitting its kind. -/
def IsRow (k : IntKind) (w : World) (a : Option Addr) (len cap : Nat) (zs : List Int) : Prop :=
  (a = none ∧ len = 0 ∧ cap = 0 ∧ zs = []) ∨
  ∃ x, a = some x ∧ len ≤ cap ∧ cap ≤ maxLen ∧ zs.length = cap ∧ (∀ i, i < zs.length → w.cell? (x.add i) = some (.int k (zs.getD i 0))) ∧ ∀ n ∈ zs, (Lit.int k n).wf = true

/-! ### STEP 1: THE WALK: the Go text returns true, AND WRITES NOTHING THAT WAS THERE: 'Below w.heap.size w w'' (Derived/Below.lean: '.refl', '.alloc', '.drew', '.setCell' at a new block, '.trans'). Open each 'IsRow' by 'rcases' AHEAD of 'go_enter'; part every test ahead of the walk. -/
/-- an elder row lies apart from a younger one -/
theorem own_apart {w w' : World} {B e size n m : Nat} {v u : Value} {xs ys : List Value} (h : w.ownsRow B e size v n xs) (k : w'.ownsRow w.heap.size e size u m ys) : v.ownBlock = none ∨ v.ownBlock ≠ u.ownBlock := by
  cases e1 : v.ownBlock with
  | none => exact Or.inl rfl
  | some a =>
    right
    intro e2
    have h1 := (h.lt a e1).2
    have h2 := (k.lt a e2.symm).1
    omega

set_option maxHeartbeats 1000000 in
theorem walk (a0 : ByteArray) (w : World) (w0 : a0.size ≤ maxLen) :
    Calls Try.prog 5 #[.string a0] w fun e w' => e = .returned (.bool true) ∧ Below w.heap.size w w' := by
  by_cases hL : a0.size ≤ 1048576
  rotate_left
  · go_enter Try.func5, Try.ntmps5
    go_wp2
    go_ret
    exact ⟨rfl, Below.refl _ _⟩
  obtain ⟨L, hLL⟩ : ∃ L, L = wordsL a0.data.toList := ⟨_, rfl⟩
  have hlen : L.length ≤ 1048577 := by
    have h1 := splitL_len 32 a0.data.toList
    rw [len_data] at h1
    have h2 : (wordsL a0.data.toList).length ≤ (splitL 32 a0.data.toList).length := List.length_filter_le _ _
    rw [hLL]; omega
  have cs := fun w => specSplitWords_any a0 w hL
  have ci := fun w => implSplitWords_any a0 w hL
  rw [← hLL] at cs ci
  have cs' := Lib.hid cs
  have ci' := Lib.hid ci
  clear hLL cs ci
  go_enter Try.func5, Try.ntmps5
  go_wp2_with (go_at_call 14; refine (cs'.out _).mono ?_; rintro e w1 ⟨v1, rfl, o1, b1⟩)
  refine (ci'.out _).mono ?_
  rintro e w2 ⟨v2, rfl, o2, b2⟩
  have o12 := own_kept o1 b2
  have hap := own_apart o1 o2
  have B2 := b1.trans (b2.mono b1.size)
  have hge2 : ∀ k, v2.ownBlock = some k → w.heap.size ≤ k := fun k hk => Nat.le_trans b1.size (o2.lt k hk).1
  have s2 := B2.size
  clear o1 b1 b2
  go_wp2_with fail
  refine (eqStringS_rows v2 v1 _ _ L _ hlen o2 o12).mono ?_
  rintro e _ ⟨rfl, m1, rfl⟩
  go_wp2_with fail
  refine (markStringS_row v2 L.length 1 _ _ (w2.drewN m1) hlen (by omega) (by omega) o2).mono ?_
  rintro e w3 ⟨rfl, o3, g3⟩
  have o13 := o12.kept (w' := w3) ⟨g3.os, g3.tape, g3.output, g3.size, g3.block⟩ hap
  have B3 := (belowN B2 m1).grown g3 s2 hge2
  clear o2 o12 g3 hge2 hap B2
  go_wp2_with fail
  refine (heldStringS_row v2 L.length 1 _ w3 hlen (by omega) (by omega) o3).mono ?_
  rintro e w4 ⟨rfl, b4⟩
  have o34 := own_kept o3 b4
  have o14 := own_kept o13 b4
  have B4 := B3.trans (b4.mono B3.size)
  clear o3 o13 b4 B3
  go_wp2_with fail
  refine (ci'.out _).mono ?_
  rintro e w5 ⟨v5, rfl, o5, b5⟩
  have o35 := own_kept o34 b5
  have o15 := own_kept o14 b5
  have B5 := B4.trans (b5.mono B4.size)
  clear o34 o14 b5 B4
  go_wp2_with fail
  refine (eqStringS_rows v5 v1 _ _ L _ hlen o5 o15).mono ?_
  rintro e _ ⟨rfl, m5, rfl⟩
  go_wp2_with fail
  refine (heldStringS_row v2 L.length 1 _ (w5.drewN m5) hlen (by omega) (by omega) o35).mono ?_
  rintro e w6 ⟨rfl, b6⟩
  have B6 := (belowN B5 m5).trans (b6.mono B5.size)
  clear o35 o15 o5 b6 B5
  go_wp2
  go_ret
  exact ⟨rfl, B6⟩


/-! ### THE ROW's STEP: WRITTEN OUT: LEAVE IT -/
set_option maxRecDepth 100000 in
theorem lifted (os : Os) (started : os.Started) (H : Type) (enc : TypeId × Value → H) :
    ReturnsInHanded {} Try.checked os 5 .any (Rows.fnExactSplitWordsSpec.pre6 enc Try.prog Try.f5 Rows.fnExactSplitWordsRow.domain false) (Rows.fnExactSplitWordsSpec.post enc Try.prog Try.f5 false true false false) := by
  refine returnsInHanded_of_change (C := Try.checked) own started (by kernel_rfl) Try.func5
    (ChangeSpec.witness6 (enc := enc) (C := Try.checked) false ⟨#[], #[.string ByteArray.empty], []⟩ 8 (by kernel_rfl) (by kernel_rfl) (by kernel_rfl) (by kernel_rfl)) ?_
  intro W base args ds gs before hval0 hW hcnd _
  have hval : ∀ (j : Nat) t v, Try.f5.params[j]? = some t → args[j]? = some v → Value.okWide Try.prog W .any base t v := hval0
  have hW' := hW
  obtain ⟨p, q, hA0, hV, rfl, hfz, hnd⟩ := hW
  have hA : DataW.TrodAll enc Try.prog W 0 (fun _ => true) true Try.f5.params.toList args.toList ds p := hA0
  rw [Try.params5] at hA hval
  obtain ⟨v0, vs0, d0, ds0, p0, q0, hargs, rfl, rfl, h0, r0⟩ := trodAll_cons hA
  obtain ⟨rfl, rfl, rfl⟩ := trodAll_nil r0
  obtain rfl : args = #[v0] := by cases args; simp_all
  obtain ⟨rfl, rfl⟩ := trodVars_none hV
  obtain ⟨a0, rfl, rfl, rfl, w0⟩ := open_string Try.underlying9 (hval 0 9 v0 rfl rfl) h0
  clear hA0 hval0
  refine (walk a0 W w0).mono fun e W' ⟨he, bel⟩ => ?_
  subst he
  exact ⟨_, rfl, _, _, _, [], _, [], hW', trodAll_mk1 (shut_bool Try.underlying4 _), (trodAll_cons_mk (shut_string Try.underlying9 w0) trodAll_mk0), rfl, bel.frame _, fun h => by cases h⟩

theorem over : Rows.fnExactSplitWordsRow.holds Try.pinned (OpenSpec.ofChange Rows.fnExactSplitWordsSpec) :=
  OpenClaim.holds_of_wide 5 Try.f5 rfl rfl rfl rfl rfl rfl rfl ⟨rfl, rfl, rfl, rfl, rfl⟩ rfl rfl rfl rfl rfl (by kernel_rfl) Try.func5 (by kernel_rfl)
    (of_decide_eq_true (by kernel_rfl)) (by unfold Func.isWrapper; first | (rw [if_pos (by decide +kernel)]; kernel_rfl) | (rw [if_neg (by decide +kernel)]; exact ⟨rfl, rfl⟩))
    (fun os started H enc _ => lifted os started H enc)

/-- ████ THE STATEMENT ████ -/
theorem proved : Rows.FnExactSplitWordsSaid := over
#print axioms proved
end Go.Proofs.Ytpjdlfhbeelicaa.fnExactSplitWords
