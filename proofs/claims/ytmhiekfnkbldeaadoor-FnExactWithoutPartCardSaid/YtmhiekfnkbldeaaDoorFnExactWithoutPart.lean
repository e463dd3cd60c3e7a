/-
  The law FnExactWithoutPart holds for every input: the function answers as its model; the listed package-level variables are tied to the program's text.
-/
import Derived.Test.YtmhiekfnkbldeaaDoorBowX
import Derived.Test.YtmhiekfnkbldeaaDoorPrtsO
import Derived.Test.YtmhiekfnkbldeaaDoorPrts3
import Derived.Test.YtmhiekfnkbldeaaDoorPrtsM
import Derived.Test.YtmhiekfnkbldeaaDoorCards
import Derived.Test.YtmhiekfnkbldeaaDoorTie
import Derived.Lib.Hide
import Derived.WalkKit
import Derived.ProofKit
import Derived.OpenShut
import Derived.ShutString
import Derived.ChangeOld
import Derived.Below
import Derived.Deep.DeepHandedRow
import Derived.Deep.DeepWitnessRowRef
import Derived.Lib.LaidIn
import Derived.Lib.LaidTab
import Derived.SevenTiedAt
import Derived.OpenVars
import Derived.ChangeVars
namespace Go.Proofs.YtmhiekfnkbldeaaDoor.fnExactWithoutPart
open Go.ChangeShapes Go.WideShapes Go.ChangeAt Go.RowKit
open Go.ChangeMaps (open_string shut_string)
set_option linter.unusedVariables false
set_option linter.unusedSimpArgs false

theorem own : ownKnob Tryd.prog.godebug = none := by kernel_rfl
theorem laidOut : laidOutB Tryd.prog = true := by kernel_rfl
/-- WHAT THE WALK IS TOLD OF A SLICE OF INTEGERS THAT CAME IN: it is nil; or it leads to a row of 'cap' cells, the numbers 'zs' (the first 'len' are its elements, the rest its spare room), each fitting its kind. -/
def IsRow (k : IntKind) (w : World) (a : Option Addr) (len cap : Nat) (zs : List Int) : Prop :=
  (a = none ∧ len = 0 ∧ cap = 0 ∧ zs = []) ∨
  ∃ x, a = some x ∧ len ≤ cap ∧ cap ≤ maxLen ∧ zs.length = cap ∧ (∀ i, i < zs.length → w.cell? (x.add i) = some (.int k (zs.getD i 0))) ∧ ∀ n ∈ zs, (Lit.int k n).wf = true

theorem vars_shape {H : Type} {enc : TypeId × Value → H} {P : Program} {w : World} {spare : Nat → Bool} {n0 n1 n2 n3 : String} {gs : List (DataW H)} {ps : List MemPlace} (h : DataW.TrodVars enc P w spare [n0, n1, n2, n3] gs ps) : ∃ dv0 dv1 dv2 dv3, gs = [dv0, dv1, dv2, dv3] := by
  cases gs with
  | nil => simp [DataW.TrodVars] at h
  | cons e0 r0 =>
    obtain ⟨_, _, _, _, _, _, _, _, _, _, k0, _⟩ := h
    cases r0 with
    | nil => simp [DataW.TrodVars] at k0
    | cons e1 r1 =>
      obtain ⟨_, _, _, _, _, _, _, _, _, _, k1, _⟩ := k0
      cases r1 with
      | nil => simp [DataW.TrodVars] at k1
      | cons e2 r2 =>
        obtain ⟨_, _, _, _, _, _, _, _, _, _, k2, _⟩ := k1
        cases r2 with
        | nil => simp [DataW.TrodVars] at k2
        | cons e3 r3 =>
          obtain ⟨_, _, _, _, _, _, _, _, _, _, k3, _⟩ := k2
          obtain ⟨rfl, rfl⟩ := trodVars_none k3
          exact ⟨e0, e1, e2, e3, rfl⟩
set_option maxRecDepth 1000000 in
set_option maxHeartbeats 3200000 in
theorem walk (a0 : Value) (a1 : ByteArray) (w : World) (w0 : PrtsV w a0) (w1 : a1.size ≤ maxLen) (hE0 : ∃ p m k x, BowErrX w 4 p m k x) :
    Calls Tryd.prog 5 #[a0, .string a1] w fun e w' => e = .returned (.bool true) ∧ Below w.heap.size w w' := by
  obtain ⟨Z, hZ, hZl⟩ := w0
  have hZ' := Lib.hid hZ
  clear hZ
  obtain ⟨ep, em, eh, ex, hE⟩ := hE0
  by_cases hL9 : a1.size ≤ 1048576
  rotate_left
  · clear hE
    go_enter Tryd.func5, Tryd.ntmps5
    go_wp2
    go_ret
    exact ⟨rfl, Below.refl _ _⟩
  have hE' := Lib.hid hE
  clear hE
  go_enter Tryd.func5, Tryd.ntmps5
  go_wp2_with fail
  refine (szPartS_any a0 Z _ hZl hZ'.out).mono ?_
  rintro e u1 ⟨n, rfl, hn0, hn1, hn2, d1⟩
  by_cases hneg : n < 0
  · go_wp2
    go_ret
    exact ⟨rfl, d1⟩
  obtain ⟨hlen, hids⟩ := hn2 (by omega)
  have hlen' := Lib.hid hlen
  have hl16 := Nat.le_trans (woV_len Z a1) hlen
  have cs := fun W V (h : PrtsAt W V Z) => specWithoutPart_any V Z a1 W hlen h
  have ci := fun W V (h : PrtsAt W V Z) (hb : Below w.heap.size w W) => implWithoutPart_any V Z a1 W hlen h ep em eh ex (hE'.out.below hb)
  obtain ⟨LL, hLL⟩ : ∃ LL, LL = woV Z a1 := ⟨_, rfl⟩
  obtain ⟨cc, hcc⟩ : ∃ cc, cc = woC Z a1 := ⟨_, rfl⟩
  rw [← hLL, ← hcc] at cs ci
  rw [← hLL] at hl16
  have cs' := Lib.hid cs
  have ci' := Lib.hid ci
  clear hids hZl cs ci hLL hcc hlen
  go_wp2_with fail
  refine (toPartS_any a0 Z _ hlen'.out (hZ'.out.below d1)).mono ?_
  rintro e u2 ⟨v2, rfl, p2, d2⟩
  have D2 := d1.trans (d2.mono d1.size)
  go_wp2_with fail
  refine (cs'.out _ _ p2).mono ?_
  rintro e u3 ⟨v3, rfl, o3, d3⟩
  have D3 := D2.trans (d3.mono D2.size)
  clear d1 d2 d3 D2 p2
  go_wp2_with fail
  refine (toPartS_new a0 Z _ hlen'.out (hZ'.out.below D3)).mono ?_
  rintro e u4 ⟨rfl, p4, th4, lt4, d4⟩
  have o34 := o3.below d4
  have ap3x : v3.ownBlock = none ∨ v3.ownBlock ≠ some u3.heap.size := Or.inr (fun h => by have := (o3.lt _ h).2; omega)
  have hx3 : w.heap.size ≤ u3.heap.size := D3.size
  have D4 := D3.trans (d4.mono D3.size)
  clear d4 D3 o3
  go_wp2_with fail
  refine (ci'.out _ _ p4 D4).mono ?_
  rintro e u5 ⟨v5, rfl, o5, d5⟩
  have o35 := o34.below d5
  have ap35 := o34.apart o5
  have ap5x : v5.ownBlock = none ∨ v5.ownBlock ≠ some u3.heap.size := Or.inr (fun h => by have := (o5.lt _ h).1; omega)
  have ge5 : ∀ k, v5.ownBlock = some k → w.heap.size ≤ k := fun k hk => Nat.le_trans D4.size (o5.lt k hk).1
  have G5 := Lib.hid ge5
  have D5 := D4.trans (d5.mono D4.size)
  have p5 := p4.below d5
  have th5 := there_below th4 lt4 d5
  have lt5 := Nat.lt_of_lt_of_le lt4 d5.size
  clear D4 o34 ge5 p4 th4 lt4 d5
  go_wp2_with fail
  refine (eqPartS_any v5 v3 LL _ (by omega) o5.1 o35.1).mono ?_
  rintro e u6 ⟨rfl, d6⟩
  have o36 := o35.below d6
  have o56 := o5.below d6
  have p6 := p5.below d6
  have th6 := there_below th5 lt5 d6
  have lt6 := Nat.lt_of_lt_of_le lt5 d6.size
  have D6 := D5.trans (d6.mono D5.size)
  clear d6 D5 o35 o5 p5 th5 lt5
  go_wp2_with fail
  refine (toPartS_any a0 Z _ hlen'.out (hZ'.out.below D6)).mono ?_
  rintro e u7 ⟨v7, rfl, p7, d7⟩
  have p67 := p6.below d7
  have o37 := o36.below d7
  have o57 := o56.below d7
  have th7 := there_below th6 lt6 d7
  have lt7 := Nat.lt_of_lt_of_le lt6 d7.size
  have D7 := D6.trans (d7.mono D6.size)
  clear d7 D6 o36 o56 p6 th6 lt6
  go_wp2_with fail
  refine (eqPartS_any _ v7 Z _ hlen'.out p67 p7).mono ?_
  rintro e u8 ⟨rfl, d8⟩
  have o38 := o37.below d8
  have o58 := o57.below d8
  have th8 := there_below th7 lt7 d8
  have lt8 := Nat.lt_of_lt_of_le lt7 d8.size
  have D8 := D7.trans (d8.mono D7.size)
  clear d8 D7 o37 o57 p67 p7 th7 lt7
  have hlen2 := hlen'.out
  go_wp2_with fail
  refine (markPartS_any u3.heap.size Z.length Z.length 1 u8 (by omega) (by omega) (by omega) lt8 th8).mono ?_
  rintro e u9 ⟨rfl, g9⟩
  have o39 := o38.grown g9 ap3x
  have o59 := o58.grown g9 ap5x
  have D9 := Lib.hid (D8.grown g9 D8.size (fun k hk => by cases hk; exact hx3))
  clear o38 o58 g9 D8 ap3x ap5x hx3 th8 lt8
  go_wp2_with fail
  refine (eqPartS_any v5 v3 LL _ (by omega) o59.1 o39.1).mono ?_
  rintro e u10 ⟨rfl, d10⟩
  have o310 := o39.below d10
  have o510 := o59.below d10
  have D10 := Lib.hid (D9.out.trans (d10.mono D9.out.size))
  clear d10 D9 o39 o59
  go_wp2_with fail
  refine (markPartS_own v5 LL 1 _ _ (by omega) (by omega) (by omega) o510).mono ?_
  rintro e u11 ⟨rfl, m11, g11⟩
  have o311 := o310.grown g11 ap35
  have D11 := Lib.hid (D10.out.grown g11 D10.out.size G5.out)
  clear o310 o510 g11 ap35 D10
  go_wp2_with fail
  refine (heldPartS_own v5 LL.length 1 _ (by omega) (by omega) (by omega) m11).mono ?_
  rintro e u12b ⟨rfl, bN⟩
  have oN := o311.below bN
  have mN := m11.below bN
  have DN := Lib.hid (D11.out.trans (bN.mono D11.out.size))
  clear o311 m11 bN D11
  go_wp2_with fail
  refine (toPartS_any a0 Z _ hlen'.out (hZ'.out.below DN.out)).mono ?_
  rintro e u12 ⟨v12, rfl, p12, d12⟩
  have o312 := oN.below d12
  have m12 := mN.below d12
  have D12 := Lib.hid (DN.out.trans (d12.mono DN.out.size))
  clear oN mN d12 DN
  go_wp2_with fail
  refine (ci'.out _ _ p12 D12.out).mono ?_
  rintro e u13 ⟨v13, rfl, o13, d13⟩
  have o313 := o312.below d13
  have m13 := m12.below d13
  have D13 := Lib.hid (D12.out.trans (d13.mono D12.out.size))
  clear o312 m12 d13 D12 p12
  go_wp2_with fail
  refine (eqPartS_any v13 v3 LL _ (by omega) o13.1 o313.1).mono ?_
  rintro e u14 ⟨rfl, d14⟩
  have m14 := m13.below d14
  have D14 := Lib.hid (D13.out.trans (d14.mono D13.out.size))
  clear o13 o313 m13 d14 D13
  go_wp2_with fail
  refine (heldPartS_own v5 LL.length 1 _ (by omega) (by omega) (by omega) m14).mono ?_
  rintro e u15b ⟨rfl, b15⟩
  have D15 := D14.out.trans (b15.mono D14.out.size)
  clear m14
  go_wp2
  go_ret
  exact ⟨rfl, D15⟩

/-- A world for the witness: the settled one, the listed variables holding what their initialisers lay. -/
noncomputable def laidWorld (os : Os) : World :=
  let N := (World.settled Tryd.prog os).heap.size
  let w0 := World.holding Tryd.prog os ⟨#[.cells #[.string ⟨([110, 111, 32, 112, 97, 114, 116, 32, 104, 97, 115, 32, 116, 104, 101, 32, 73, 100] : List UInt8).toArray⟩] 125, .cells #[.string ⟨([116, 104, 101, 32, 112, 97, 114, 116, 32, 105, 115, 32, 116, 104, 101, 32, 111, 110, 108, 121, 32, 111, 110, 101] : List UInt8).toArray⟩] 125, .cells #[.string ⟨([110, 111, 32, 109, 97, 115, 115, 32, 97, 116, 32, 116, 104, 101, 32, 112, 108, 97, 99, 101, 32, 105, 115, 32, 101, 110, 111, 117, 103, 104] : List UInt8).toArray⟩] 125, .cells #[.string ⟨([116, 104, 101, 32, 109, 97, 115, 115, 32, 105, 115, 32, 116, 111, 111, 32, 103, 114, 101, 97, 116] : List UInt8).toArray⟩] 125], #[], []⟩
  let put (h : Array Obj) (g : Nat) (cs : Array Value) : Array Obj := h.modify g fun
    | .cells _ t frozen => .cells cs t frozen
    | o => o
  let h0 := put w0.heap 2 #[.iface 99 (.pointer (some ⟨N + 0, 0, none⟩))]
  let h1 := put h0 4 #[.iface 99 (.pointer (some ⟨N + 1, 0, none⟩))]
  let h2 := put h1 0 #[.iface 99 (.pointer (some ⟨N + 2, 0, none⟩))]
  let h3 := put h2 1 #[.iface 99 (.pointer (some ⟨N + 3, 0, none⟩))]
  { w0 with heap := h3 }
noncomputable abbrev N0 : Nat := (World.settled Tryd.prog default).heap.size
set_option maxRecDepth 1000000 in
theorem laid_met (os : Os) : laidMet Tryd.prog Rows.fnExactWithoutPartRow.laid ((laidWorld os).forCall (fun _ _ => 0) ⟨#[], #[.slice none 0 0, .string ByteArray.empty], []⟩).memory :=
  (LaidIn.of_run (l := Rows.fnExactWithoutPartRow.laid) [2, N0 + 0, 4, N0 + 1, 0, N0 + 2, 1, N0 + 3] 10 (by kernel_rfl) (by kernel_rfl) (by kernel_rfl) (by kernel_rfl)).met
theorem reads (os : Os) {H : Type} (enc : TypeId × Value → H) : ∃ places, DataW.whole enc Tryd.prog ((laidWorld os).forCall (fun _ _ => 0) ⟨#[], #[.slice none 0 0, .string ByteArray.empty], []⟩).memory Tryd.f5.params.toList Rows.fnExactWithoutPartSpec.vars false (#[.slice none 0 0, .string ByteArray.empty] : Array Value).toList 8 = some ([.nil, .lit (.string [])], [.held (enc (99, .pointer (some ⟨N0 + 1, 0, none⟩))), .held (enc (99, .pointer (some ⟨N0 + 0, 0, none⟩))), .held (enc (99, .pointer (some ⟨N0 + 2, 0, none⟩))), .held (enc (99, .pointer (some ⟨N0 + 3, 0, none⟩)))], places) :=
  ⟨MemPlace.row ⟨4, 0, none⟩ 1 ++ MemPlace.row ⟨2, 0, none⟩ 1 ++ MemPlace.row ⟨0, 0, none⟩ 1 ++ MemPlace.row ⟨1, 0, none⟩ 1, by kernel_rfl⟩
set_option maxRecDepth 100000 in
theorem lifted (os : Os) (started : os.Started) (H : Type) (enc : TypeId × Value → H) (F : Stop.Interp) :
    ReturnsInHanded {} Tryd.checked os 5 .any ((OpenSpec.ofChange Rows.fnExactWithoutPartSpec).preRow enc Tryd.prog Tryd.f5 Rows.fnExactWithoutPartRow.domain false Rows.fnExactWithoutPartRow.laid) (((OpenSpec.ofChange Rows.fnExactWithoutPartSpec).at F).post enc Tryd.prog Tryd.f5 false true false false) := by
  obtain ⟨places, hx⟩ := reads os enc
  refine returnsInHanded_of_row (C := Tryd.checked) (s := (OpenSpec.ofChange Rows.fnExactWithoutPartSpec)) own started (by kernel_rfl) Tryd.func5
    (witness_row_atRef (enc := enc) (C := Tryd.checked) false (laidWorld os) #[.slice none 0 0, .string ByteArray.empty] rfl (by kernel_rfl) (by kernel_rfl) (by kernel_rfl)
      (OpenSpec.preRow_of_cond 8 hx (by kernel_rfl) (fun k hk => by cases hk) (by kernel_rfl) (laid_met os))) ?_
  intro W base args ds gs before hval0 hW hcnd hcond _ hL0 hShape _
  have hL : laidMet Tryd.prog Rows.fnExactWithoutPartRow.laid W := hL0
  have hval : ∀ (j : Nat) t v, Tryd.f5.params[j]? = some t → args[j]? = some v → Value.okWide Tryd.prog W .any base t v := hval0
  have hW' := hW
  obtain ⟨p, q, hA0, hV, rfl, hfz, hnd⟩ := hW
  have hA : DataW.TrodAll enc Tryd.prog W 0 (fun _ => true) true Tryd.f5.params.toList args.toList ds p := hA0
  rw [Tryd.params5] at hA hval
  obtain ⟨v0, vs0, d0, ds0, p0, q0, hargs, rfl, rfl, h0, r0⟩ := trodAll_cons hA
  obtain ⟨v1, vs1, d1, ds1, p1, q1, rfl, rfl, rfl, h1, r1⟩ := trodAll_cons r0
  obtain ⟨rfl, rfl, rfl⟩ := trodAll_nil r1
  obtain rfl : args = #[v0, v1] := by cases args; simp_all
  have hV2 := hV
  obtain ⟨dv0, dv1, dv2, dv3, rfl⟩ := vars_shape hV2
  have k0 := h0
  have lt0 : ∀ x ∈ p0, x.block < W.heap.size := by obtain ⟨m, hm⟩ := k0; exact DataW.trod_lt m _ _ _ hm
  have w0 : PrtsV W v0 := prts_open (hval 0 22 v0 rfl rfl) h0
  obtain ⟨a1, rfl, rfl, rfl, w1⟩ := open_string Tryd.underlying9 (hval 1 9 v1 rfl rfl) h1
  clear hA0 hval0
  refine (walk v0 a1 W w0 w1 (bowErrL hL (by decide) (by decide) (by decide) (by decide) (by decide) (by decide))).mono fun e W' ⟨he, bel⟩ => ?_
  subst he
  exact ⟨_, rfl, _, _, _, [], _, _, hW', trodAll_mk1 (shut_bool Tryd.underlying4 _), (trodAll_cons_mk (Below.trod laidOut (by kernel_rfl) (of_decide_eq_true (by kernel_rfl)) k0 bel lt0) (trodAll_cons_mk (shut_string Tryd.underlying9 w1) trodAll_mk0)), Below.trodVars laidOut bel (by kernel_rfl) hV, bel.frame _, fun h => by cases h⟩

theorem said : Rows.FnExactWithoutPartSaid :=
  OpenClaim.holds_of_cond 5 Tryd.f5 rfl rfl rfl rfl rfl rfl rfl ⟨rfl, rfl, rfl, rfl, rfl⟩ rfl rfl rfl rfl rfl (by kernel_rfl) Tryd.func5 (by kernel_rfl)
    (of_decide_eq_true (by kernel_rfl)) (by unfold Func.isWrapper; first | (rw [if_pos (by decide +kernel)]; kernel_rfl) | (rw [if_neg (by decide +kernel)]; exact ⟨rfl, rfl⟩))
    (fun os started H enc _ F => by rw [OpenClaim.pre_eq_preRow]; exact lifted os started H enc F)

theorem plain (f : FuncId) (fn : Func) (hf : Tryd.pinned.checked.prog.funcNamed "loop.example/g01061/laws.FnExactWithoutPart" = some f) (hfn : Tryd.pinned.checked.prog.funcs[f]? = some fn) :
    true = Tryd.pinned.checked.prog.looks [] ∧ ∀ (j : Nat) t, fn.params[j]? = some t → Tryd.pinned.checked.prog.wantsStandIn t = false := by
  obtain rfl : f = 5 := Option.some.inj ((show Tryd.prog.funcNamed "loop.example/g01061/laws.FnExactWithoutPart" = some 5 by kernel_rfl).symm.trans hf) |>.symm
  obtain rfl : fn = Tryd.f5 := (Option.some.inj (Tryd.func5.symm.trans hfn)).symm
  refine ⟨by kernel_rfl, fun j t ht => ?_⟩
  rw [Tryd.params5] at ht
  have hm := Array.mem_of_getElem? ht
  simp only [List.mem_toArray, List.mem_cons, List.mem_nil_iff, or_false] at hm
  rcases hm with rfl | rfl
  · exact (show Tryd.prog.wantsStandIn 22 = false by kernel_rfl)
  · exact (show Tryd.prog.wantsStandIn 9 = false by kernel_rfl)

/-- the statement -/
theorem proved : Rows.FnExactWithoutPartCardSaid :=
  Claim7.holds_tied_plain_at .later [] _ _ _ _ said (fun _ h => by cases h) (by kernel_rfl) (fun _ h => by cases h) fnExactWithoutPart_row_tie rfl ⟨rfl, rfl⟩ (by kernel_rfl) rfl plain (by kernel_rfl)
#print axioms proved
end Go.Proofs.YtmhiekfnkbldeaaDoor.fnExactWithoutPart
