/-
  The law FnExactMovedPart holds for every input: the function answers as its model; the listed package-level variables are tied to the program's text.
-/
import Derived.Test.YtmhiekfnkbldeaaDoorBowN
import Derived.Test.YtmhiekfnkbldeaaDoorPrts3
import Derived.Test.YtmhiekfnkbldeaaDoorCards
import Derived.Test.YtmhiekfnkbldeaaDoorTie
import Derived.Lib.Hide
import Derived.WalkKit
import Derived.ProofKit
import Derived.OpenShut
import Derived.ShutString
import Derived.ChangeOld
import Derived.Below
import Derived.Deep.DeepHandedRow
import Derived.Deep.DeepWitnessRowRef
import Derived.Lib.LaidIn
import Derived.Lib.LaidTab
import Derived.SevenTiedAt
import Derived.OpenVars
import Derived.ChangeVars
namespace Go.Proofs.YtmhiekfnkbldeaaDoor.fnExactMovedPart
open Go.ChangeShapes Go.WideShapes Go.ChangeAt Go.RowKit
open Go.ChangeMaps (open_string shut_string)
set_option linter.unusedVariables false
set_option linter.unusedSimpArgs false

theorem own : ownKnob Tryd.prog.godebug = none := by kernel_rfl
theorem laidOut : laidOutB Tryd.prog = true := by kernel_rfl
/-- WHAT THE WALK IS TOLD OF A SLICE OF INTEGERS THAT CAME IN: it is nil; or it leads to a row of 'cap' cells, the numbers 'zs' (the first 'len' are its elements, the rest its spare room), each fitting its kind. -/
def IsRow (k : IntKind) (w : World) (a : Option Addr) (len cap : Nat) (zs : List Int) : Prop :=
  (a = none ∧ len = 0 ∧ cap = 0 ∧ zs = []) ∨
  ∃ x, a = some x ∧ len ≤ cap ∧ cap ≤ maxLen ∧ zs.length = cap ∧ (∀ i, i < zs.length → w.cell? (x.add i) = some (.int k (zs.getD i 0))) ∧ ∀ n ∈ zs, (Lit.int k n).wf = true

theorem vars_shape {H : Type} {enc : TypeId × Value → H} {P : Program} {w : World} {spare : Nat → Bool} {n0 n1 n2 n3 : String} {gs : List (DataW H)} {ps : List MemPlace} (h : DataW.TrodVars enc P w spare [n0, n1, n2, n3] gs ps) : ∃ dv0 dv1 dv2 dv3, gs = [dv0, dv1, dv2, dv3] := by
  cases gs with
  | nil => simp [DataW.TrodVars] at h
  | cons e0 r0 =>
    obtain ⟨_, _, _, _, _, _, _, _, _, _, k0, _⟩ := h
    cases r0 with
    | nil => simp [DataW.TrodVars] at k0
    | cons e1 r1 =>
      obtain ⟨_, _, _, _, _, _, _, _, _, _, k1, _⟩ := k0
      cases r1 with
      | nil => simp [DataW.TrodVars] at k1
      | cons e2 r2 =>
        obtain ⟨_, _, _, _, _, _, _, _, _, _, k2, _⟩ := k1
        cases r2 with
        | nil => simp [DataW.TrodVars] at k2
        | cons e3 r3 =>
          obtain ⟨_, _, _, _, _, _, _, _, _, _, k3, _⟩ := k2
          obtain ⟨rfl, rfl⟩ := trodVars_none k3
          exact ⟨e0, e1, e2, e3, rfl⟩
set_option maxRecDepth 1000000 in
set_option maxHeartbeats 3200000 in
theorem walk (a0 : Value) (a1 : ByteArray) (a2 : Int) (w : World) (w0 : PrtsV w a0) (w1 : a1.size ≤ maxLen) (w2 : (Lit.int .i64 a2).wf = true) (hE0 : ∃ p m k x, BowErrX w 3 p m k x) :
    Calls Tryd.prog 4 #[a0, .string a1, .int .i64 a2] w fun e w' => e = .returned (.bool true) ∧ Below w.heap.size w w' := by
  obtain ⟨Z, hZ, hZl⟩ := w0
  have hZ' := Lib.hid hZ
  clear hZ
  obtain ⟨ep, em, eh, ex, hE⟩ := hE0
  have hE' := Lib.hid hE
  clear hE
  by_cases hL9 : a1.size ≤ 1048576
  rotate_left
  · go_enter Tryd.func4, Tryd.ntmps4
    go_wp2
    go_ret
    exact ⟨rfl, Below.refl _ _⟩
  go_enter Tryd.func4, Tryd.ntmps4
  go_wp2_with fail
  refine (szPartS_any a0 Z _ hZl hZ'.out).mono ?_
  rintro e u1 ⟨n, rfl, hn0, hn1, hn2, d1⟩
  by_cases hneg : n < 0
  · go_wp2
    go_ret
    exact ⟨rfl, d1⟩
  obtain ⟨hlen, hids⟩ := hn2 (by omega)
  have hlen' := Lib.hid hlen
  clear hids hlen hZl
  go_wp2_with fail
  refine (toPartS_any a0 Z _ hlen'.out (hZ'.out.below d1)).mono ?_
  rintro e u2 ⟨v2, rfl, p2, d2⟩
  have D2 := d1.trans (d2.mono d1.size)
  go_wp2_with fail
  refine (specMovedPart_any v2 Z a1 a2 _ hlen'.out p2).mono ?_
  rintro e u3 ⟨rfl, d3⟩
  have D3 := D2.trans (d3.mono D2.size)
  clear d1 d2 d3 D2 p2
  go_wp2_with fail
  refine (toPartS_any a0 Z _ hlen'.out (hZ'.out.below D3)).mono ?_
  rintro e u4 ⟨v4, rfl, p4, d4⟩
  have D4 := D3.trans (d4.mono D3.size)
  clear d4 D3
  go_wp2_with fail
  refine (implMovedPart_any v4 Z a1 a2 _ hlen'.out p4 ep em eh ex (hE'.out.below D4)).mono ?_
  rintro e u5 ⟨rfl, d5⟩
  have D5 := D4.trans (d5.mono D4.size)
  have p5 := p4.below d5
  clear d5 D4 p4
  go_wp2_with fail
  refine (toPartS_any a0 Z _ hlen'.out (hZ'.out.below D5)).mono ?_
  rintro e u6 ⟨v6, rfl, p6, d6⟩
  have D6 := D5.trans (d6.mono D5.size)
  have p56 := p5.below d6
  clear d6 D5 p5
  go_wp2_with fail
  refine (eqPartS_any v4 v6 Z _ hlen'.out p56 p6).mono ?_
  rintro e u7 ⟨rfl, d7⟩
  have D7 := D6.trans (d7.mono D6.size)
  clear d7 D6 p56 p6
  go_wp2
  go_ret
  exact ⟨rfl, D7⟩

/-- A world for the witness: the settled one, the listed variables holding what their initialisers lay. -/
noncomputable def laidWorld (os : Os) : World :=
  let N := (World.settled Tryd.prog os).heap.size
  let w0 := World.holding Tryd.prog os ⟨#[.cells #[.string ⟨([110, 111, 32, 112, 97, 114, 116, 32, 104, 97, 115, 32, 116, 104, 101, 32, 73, 100] : List UInt8).toArray⟩] 125, .cells #[.string ⟨([110, 111, 32, 109, 97, 115, 115, 32, 97, 116, 32, 116, 104, 101, 32, 112, 108, 97, 99, 101, 32, 105, 115, 32, 101, 110, 111, 117, 103, 104] : List UInt8).toArray⟩] 125, .cells #[.string ⟨([116, 104, 101, 32, 109, 97, 115, 115, 32, 105, 115, 32, 116, 111, 111, 32, 103, 114, 101, 97, 116] : List UInt8).toArray⟩] 125, .cells #[.string ⟨([110, 111, 32, 112, 108, 97, 99, 101, 32, 111, 110, 32, 116, 104, 101, 32, 115, 116, 105, 99, 107, 32, 105, 115, 32, 102, 97, 114, 32, 101, 110, 111, 117, 103, 104] : List UInt8).toArray⟩] 125], #[], []⟩
  let put (h : Array Obj) (g : Nat) (cs : Array Value) : Array Obj := h.modify g fun
    | .cells _ t frozen => .cells cs t frozen
    | o => o
  let h0 := put w0.heap 2 #[.iface 99 (.pointer (some ⟨N + 0, 0, none⟩))]
  let h1 := put h0 0 #[.iface 99 (.pointer (some ⟨N + 1, 0, none⟩))]
  let h2 := put h1 1 #[.iface 99 (.pointer (some ⟨N + 2, 0, none⟩))]
  let h3 := put h2 3 #[.iface 99 (.pointer (some ⟨N + 3, 0, none⟩))]
  { w0 with heap := h3 }
noncomputable abbrev N0 : Nat := (World.settled Tryd.prog default).heap.size
set_option maxRecDepth 1000000 in
theorem laid_met (os : Os) : laidMet Tryd.prog Rows.fnExactMovedPartRow.laid ((laidWorld os).forCall (fun _ _ => 0) ⟨#[], #[.slice none 0 0, .string ByteArray.empty, .int .i64 0], []⟩).memory :=
  (LaidIn.of_run (l := Rows.fnExactMovedPartRow.laid) [2, N0 + 0, 0, N0 + 1, 1, N0 + 2, 3, N0 + 3] 10 (by kernel_rfl) (by kernel_rfl) (by kernel_rfl) (by kernel_rfl)).met
theorem reads (os : Os) {H : Type} (enc : TypeId × Value → H) : ∃ places, DataW.whole enc Tryd.prog ((laidWorld os).forCall (fun _ _ => 0) ⟨#[], #[.slice none 0 0, .string ByteArray.empty, .int .i64 0], []⟩).memory Tryd.f4.params.toList Rows.fnExactMovedPartSpec.vars false (#[.slice none 0 0, .string ByteArray.empty, .int .i64 0] : Array Value).toList 8 = some ([.nil, .lit (.string []), .lit (.int .i64 0)], [.held (enc (99, .pointer (some ⟨N0 + 3, 0, none⟩))), .held (enc (99, .pointer (some ⟨N0 + 0, 0, none⟩))), .held (enc (99, .pointer (some ⟨N0 + 1, 0, none⟩))), .held (enc (99, .pointer (some ⟨N0 + 2, 0, none⟩)))], places) :=
  ⟨MemPlace.row ⟨3, 0, none⟩ 1 ++ MemPlace.row ⟨2, 0, none⟩ 1 ++ MemPlace.row ⟨0, 0, none⟩ 1 ++ MemPlace.row ⟨1, 0, none⟩ 1, by kernel_rfl⟩
set_option maxRecDepth 100000 in
theorem lifted (os : Os) (started : os.Started) (H : Type) (enc : TypeId × Value → H) (F : Stop.Interp) :
    ReturnsInHanded {} Tryd.checked os 4 .any ((OpenSpec.ofChange Rows.fnExactMovedPartSpec).preRow enc Tryd.prog Tryd.f4 Rows.fnExactMovedPartRow.domain false Rows.fnExactMovedPartRow.laid) (((OpenSpec.ofChange Rows.fnExactMovedPartSpec).at F).post enc Tryd.prog Tryd.f4 false true false false) := by
  obtain ⟨places, hx⟩ := reads os enc
  refine returnsInHanded_of_row (C := Tryd.checked) (s := (OpenSpec.ofChange Rows.fnExactMovedPartSpec)) own started (by kernel_rfl) Tryd.func4
    (witness_row_atRef (enc := enc) (C := Tryd.checked) false (laidWorld os) #[.slice none 0 0, .string ByteArray.empty, .int .i64 0] rfl (by kernel_rfl) (by kernel_rfl) (by kernel_rfl)
      (OpenSpec.preRow_of_cond 8 hx (by kernel_rfl) (fun k hk => by cases hk) (by kernel_rfl) (laid_met os))) ?_
  intro W base args ds gs before hval0 hW hcnd hcond _ hL0 hShape _
  have hL : laidMet Tryd.prog Rows.fnExactMovedPartRow.laid W := hL0
  have hval : ∀ (j : Nat) t v, Tryd.f4.params[j]? = some t → args[j]? = some v → Value.okWide Tryd.prog W .any base t v := hval0
  have hW' := hW
  obtain ⟨p, q, hA0, hV, rfl, hfz, hnd⟩ := hW
  have hA : DataW.TrodAll enc Tryd.prog W 0 (fun _ => true) true Tryd.f4.params.toList args.toList ds p := hA0
  rw [Tryd.params4] at hA hval
  obtain ⟨v0, vs0, d0, ds0, p0, q0, hargs, rfl, rfl, h0, r0⟩ := trodAll_cons hA
  obtain ⟨v1, vs1, d1, ds1, p1, q1, rfl, rfl, rfl, h1, r1⟩ := trodAll_cons r0
  obtain ⟨v2, vs2, d2, ds2, p2, q2, rfl, rfl, rfl, h2, r2⟩ := trodAll_cons r1
  obtain ⟨rfl, rfl, rfl⟩ := trodAll_nil r2
  obtain rfl : args = #[v0, v1, v2] := by cases args; simp_all
  have hV2 := hV
  obtain ⟨dv0, dv1, dv2, dv3, rfl⟩ := vars_shape hV2
  have k0 := h0
  have lt0 : ∀ x ∈ p0, x.block < W.heap.size := by obtain ⟨m, hm⟩ := k0; exact DataW.trod_lt m _ _ _ hm
  have w0 : PrtsV W v0 := prts_open (hval 0 22 v0 rfl rfl) h0
  obtain ⟨a1, rfl, rfl, rfl, w1⟩ := open_string Tryd.underlying9 (hval 1 9 v1 rfl rfl) h1
  obtain ⟨a2, rfl, rfl, rfl, w2⟩ := open_int Tryd.underlying2 (hval 2 2 v2 rfl rfl) h2
  clear hA0 hval0
  refine (walk v0 a1 a2 W w0 w1 w2 (bowErrF hL (by decide) (by decide) (by decide) (by decide) (by decide) (by decide))).mono fun e W' ⟨he, bel⟩ => ?_
  subst he
  exact ⟨_, rfl, _, _, _, [], _, _, hW', trodAll_mk1 (shut_bool Tryd.underlying4 _), (trodAll_cons_mk (Below.trod laidOut (by kernel_rfl) (of_decide_eq_true (by kernel_rfl)) k0 bel lt0) (trodAll_cons_mk (shut_string Tryd.underlying9 w1) (trodAll_cons_mk (shut_int Tryd.underlying2 w2) trodAll_mk0))), Below.trodVars laidOut bel (by kernel_rfl) hV, bel.frame _, fun h => by cases h⟩

theorem said : Rows.FnExactMovedPartSaid :=
  OpenClaim.holds_of_cond 4 Tryd.f4 rfl rfl rfl rfl rfl rfl rfl ⟨rfl, rfl, rfl, rfl, rfl⟩ rfl rfl rfl rfl rfl (by kernel_rfl) Tryd.func4 (by kernel_rfl)
    (of_decide_eq_true (by kernel_rfl)) (by unfold Func.isWrapper; first | (rw [if_pos (by decide +kernel)]; kernel_rfl) | (rw [if_neg (by decide +kernel)]; exact ⟨rfl, rfl⟩))
    (fun os started H enc _ F => by rw [OpenClaim.pre_eq_preRow]; exact lifted os started H enc F)

theorem plain (f : FuncId) (fn : Func) (hf : Tryd.pinned.checked.prog.funcNamed "loop.example/g01061/laws.FnExactMovedPart" = some f) (hfn : Tryd.pinned.checked.prog.funcs[f]? = some fn) :
    true = Tryd.pinned.checked.prog.looks [] ∧ ∀ (j : Nat) t, fn.params[j]? = some t → Tryd.pinned.checked.prog.wantsStandIn t = false := by
  obtain rfl : f = 4 := Option.some.inj ((show Tryd.prog.funcNamed "loop.example/g01061/laws.FnExactMovedPart" = some 4 by kernel_rfl).symm.trans hf) |>.symm
  obtain rfl : fn = Tryd.f4 := (Option.some.inj (Tryd.func4.symm.trans hfn)).symm
  refine ⟨by kernel_rfl, fun j t ht => ?_⟩
  rw [Tryd.params4] at ht
  have hm := Array.mem_of_getElem? ht
  simp only [List.mem_toArray, List.mem_cons, List.mem_nil_iff, or_false] at hm
  rcases hm with rfl | rfl | rfl
  · exact (show Tryd.prog.wantsStandIn 22 = false by kernel_rfl)
  · exact (show Tryd.prog.wantsStandIn 9 = false by kernel_rfl)
  · exact (show Tryd.prog.wantsStandIn 2 = false by kernel_rfl)

/-- the statement -/
theorem proved : Rows.FnExactMovedPartCardSaid :=
  Claim7.holds_tied_plain_at .later [] _ _ _ _ said (fun _ h => by cases h) (by kernel_rfl) (fun _ h => by cases h) fnExactMovedPart_row_tie rfl ⟨rfl, rfl⟩ (by kernel_rfl) rfl plain (by kernel_rfl)
#print axioms proved
end Go.Proofs.YtmhiekfnkbldeaaDoor.fnExactMovedPart
