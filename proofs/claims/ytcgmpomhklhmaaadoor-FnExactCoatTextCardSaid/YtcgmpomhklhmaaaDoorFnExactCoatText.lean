/-
  The law FnExactCoatText holds for every input: the function answers as its model; the listed package-level variables are tied to the program's text.
-/
import Derived.Test.YtcgmpomhklhmaaaDoorCtT
import Derived.Test.YtcgmpomhklhmaaaDoorRowE
import Derived.Test.YtcgmpomhklhmaaaDoorCards
import Derived.Test.YtcgmpomhklhmaaaDoorTie
import Derived.Lib.Hide
import Derived.WalkKit
import Derived.ProofKit
import Derived.OpenShut
import Derived.ShutString
import Derived.ChangeOld
import Derived.Below
import Derived.Deep.DeepHandedRow
import Derived.Deep.DeepWitnessRowRef
import Derived.Lib.LaidIn
import Derived.Lib.LaidTab
import Derived.SevenTiedAt
namespace Go.Proofs.YtcgmpomhklhmaaaDoor.fnExactCoatText
open Go.ChangeShapes Go.WideShapes Go.ChangeAt Go.RowKit
open Go.ChangeMaps (open_string shut_string)
set_option linter.unusedVariables false
set_option linter.unusedSimpArgs false

theorem own : ownKnob Tryd.prog.godebug = none := by kernel_rfl
theorem laidOut : laidOutB Tryd.prog = true := by kernel_rfl
/-- WHAT THE WALK IS TOLD OF A SLICE OF INTEGERS THAT CAME IN: it is nil; or it leads to a row of 'cap' cells, the numbers 'zs' (the first 'len' are its elements, the rest its spare room), each fitting its kind. -/
def IsRow (k : IntKind) (w : World) (a : Option Addr) (len cap : Nat) (zs : List Int) : Prop :=
  (a = none ∧ len = 0 ∧ cap = 0 ∧ zs = []) ∨
  ∃ x, a = some x ∧ len ≤ cap ∧ cap ≤ maxLen ∧ zs.length = cap ∧ (∀ i, i < zs.length → w.cell? (x.add i) = some (.int k (zs.getD i 0))) ∧ ∀ n ∈ zs, (Lit.int k n).wf = true

set_option maxRecDepth 1000000 in
set_option maxHeartbeats 3200000 in
theorem walk (a0 : Value) (w : World) (w0 : CtV w a0) (hT : TabP w) :
    Calls Tryd.prog 3 #[a0] w fun e w' => e = .returned (.bool true) ∧ Below w.heap.size w w' := by
  obtain ⟨s, a, b, u, L, rfl, hs, hLl, hZ0⟩ := w0
  have hzz0 : Hid (∀ n ∈ L, inI n) := Lib.hid (by obtain ⟨_, _, _, _, h, _⟩ := hZ0; exact h)
  have hZ0' := Lib.hid hZ0
  clear hZ0
  have hct : Hid (ctLeft s L 1048576 = if (s.size : Int) + L.length ≤ 1048576 then (1048576 : Int) - s.size - L.length else -1) := Lib.hid rfl
  obtain ⟨n, hnn⟩ : ∃ n, n = ctLeft s L 1048576 := ⟨_, rfl⟩
  have hn9 : -1 ≤ n ∧ n ≤ 1048576 ∧ (0 ≤ n → (s.size : Int) + L.length ≤ 1048576) := by rw [hnn, hct.out]; split <;> omega
  obtain ⟨q9, hB9, hsz9⟩ := one_boxC w #[.string s, .int .i64 a, .int .i64 b, u] 24
  have hrng : (w.alloc (.cells #[.string s, .int .i64 a, .int .i64 b, u] 24)).rangeAt w.heap.size 0 [.string s, .int .i64 a, .int .i64 b, u] := fun j v hv => by rw [Nat.zero_add]; exact q9 j v (by simpa using hv)
  obtain ⟨W0, hW0⟩ : ∃ W0, W0 = w.alloc (.cells #[.string s, .int .i64 a, .int .i64 b, u] 24) := ⟨_, rfl⟩
  rw [← hW0] at hB9 hsz9 hrng
  clear q9
  have cz := Lib.hid (szCoat_any s a b u L 1048576 (by omega) (by omega) hs hLl W0 (hZ0'.out.below hB9))
  rw [← hnn] at cz
  clear hnn hct
  go_enter Tryd.func3, Tryd.ntmps3
  go_upto_region 1 with fail
  rw [← hW0]
  clear hW0
  have D1 := Lib.hid hB9
  have s1 := Lib.hid hB9.size
  clear hB9
  go_wp2_with (refine wpList_load_mid rfl _ _ rfl w.heap.size 0 rfl _ _ hrng Tryd.underlying24 rfl rfl ?_)
  refine cz.out.mono ?_
  rintro e u2 ⟨rfl, d2⟩
  by_cases hneg : n < 0
  · go_wp2
    go_ret
    exact ⟨rfl, D1.out.trans (d2.mono D1.out.size)⟩
  have D2 := Lib.hid (D1.out.trans (d2.mono D1.out.size))
  have s2 := Lib.hid (d2.size)
  replace hrng := range_below hrng hsz9 d2
  replace hsz9 := Nat.lt_of_lt_of_le hsz9 d2.size
  clear D1
  clear d2
  have hz9 := hn9.2.2 (by omega)
  have hz0 : Hid (L.length ≤ 1048576) := Lib.hid (by omega)
  clear hn9 hz9
  have cs := fun V0 W (h0 : IntsAt W V0 L) => specCoatText_any s a b V0 L W hs hLl h0
  have hT9 := Lib.hid hT
  have ci := fun V0 W (h0 : IntsAt W V0 L) (h9 : TabP W) => implCoatText_any s a b V0 L W hs hLl h0 h9
  clear hT
  obtain ⟨R0, hR0⟩ : ∃ R0, R0 = (⟨(ctT ⟨s, a, b, L⟩).toArray⟩ : ByteArray) := ⟨_, rfl⟩
  rw [← hR0] at cs ci
  clear hR0
  have cs' := Lib.hid cs
  have ci' := Lib.hid ci
  clear cs ci
  go_wp2_with (refine wpList_load_mid rfl _ _ rfl w.heap.size 0 rfl _ _ hrng Tryd.underlying24 rfl rfl ?_)
  refine (toCoat_any s a b u L hz0.out _ (hZ0'.out.below D2.out)).mono ?_
  rintro e u3 ⟨v3, rfl, o3, d3⟩
  have D3 := Lib.hid (D2.out.trans (d3.mono D2.out.size))
  have s3 := Lib.hid (d3.size)
  replace hrng := range_below hrng hsz9 d3
  replace hsz9 := Nat.lt_of_lt_of_le hsz9 d3.size
  clear D2
  clear d3
  have r3 := Lib.hid (ints_ownE o3 hzz0.out)
  clear o3
  go_wp2_with (refine wpList_load_mid rfl _ _ rfl w.heap.size 0 rfl _ _ hrng Tryd.underlying24 rfl rfl ?_)
  refine (cs'.out _ _ r3.out).mono ?_
  rintro e u4 ⟨rfl, d4⟩
  have D4 := Lib.hid (D3.out.trans (d4.mono D3.out.size))
  have s4 := Lib.hid (d4.size)
  replace r3 := Lib.hid (r3.out.below d4)
  replace hrng := range_below hrng hsz9 d4
  replace hsz9 := Nat.lt_of_lt_of_le hsz9 d4.size
  clear D3
  clear d4
  clear r3
  go_wp2_with (refine wpList_load_mid rfl _ _ rfl w.heap.size 0 rfl _ _ hrng Tryd.underlying24 rfl rfl ?_)
  refine (toCoat_any s a b u L hz0.out _ (hZ0'.out.below D4.out)).mono ?_
  rintro e u5 ⟨v5, rfl, o5, d5⟩
  obtain ⟨ax, cx, rfl⟩ := ownShape o5
  have D5 := Lib.hid (D4.out.trans (d5.mono D4.out.size))
  have s5 := Lib.hid (d5.size)
  replace hrng := range_below hrng hsz9 d5
  replace hsz9 := Nat.lt_of_lt_of_le hsz9 d5.size
  clear D4
  clear d5
  have r5 := Lib.hid (ints_ownE o5 hzz0.out)
  clear o5
  obtain ⟨q8, d8x, hsx⟩ := one_boxC u5 #[.string s, .int .i64 a, .int .i64 b, .slice ax L.length cx] 27
  have hrx : (u5.alloc (.cells #[.string s, .int .i64 a, .int .i64 b, .slice ax L.length cx] 27)).rangeAt u5.heap.size 0 [.string s, .int .i64 a, .int .i64 b, .slice ax L.length cx] := fun j v hv => by rw [Nat.zero_add]; exact q8 j v (by simpa using hv)
  clear q8
  have D6 := Lib.hid (D5.out.trans (d8x.mono D5.out.size))
  have s6 := Lib.hid (d8x.size)
  replace r5 := Lib.hid (r5.out.below d8x)
  replace hrng := range_below hrng hsz9 d8x
  replace hsz9 := Nat.lt_of_lt_of_le hsz9 d8x.size
  clear D5
  clear d8x
  go_wp2_with (first | (refine wpList_load_mid rfl _ _ rfl w.heap.size 0 rfl _ _ hrng Tryd.underlying24 rfl rfl ?_) | (refine wpList_load_mid rfl _ _ rfl u5.heap.size 0 rfl _ _ hrx Tryd.underlying27 rfl rfl ?_))
  refine (ci'.out _ _ r5.out (hT9.out.below D6.out)).mono ?_
  rintro e u7 ⟨rfl, d7⟩
  have D7 := Lib.hid (D6.out.trans (d7.mono D6.out.size))
  have s7 := Lib.hid (d7.size)
  replace r5 := Lib.hid (r5.out.below d7)
  replace hrng := range_below hrng hsz9 d7
  replace hsz9 := Nat.lt_of_lt_of_le hsz9 d7.size
  replace hrx := range_below hrx hsx d7
  replace hsx := Nat.lt_of_lt_of_le hsx d7.size
  clear D6
  clear d7
  have keepH : Hid (∀ W1 W2, (((W1.cell? ⟨w.heap.size, 0, none⟩ = some (.string s) ∧ W1.cell? ⟨w.heap.size, 1, none⟩ = some (.int .i64 a) ∧ W1.cell? ⟨w.heap.size, 2, none⟩ = some (.int .i64 b) ∧ W1.cell? ⟨w.heap.size, 3, none⟩ = some u) ∧ (W1.cell? ⟨u5.heap.size, 0, none⟩ = some (.string s) ∧ W1.cell? ⟨u5.heap.size, 1, none⟩ = some (.int .i64 a) ∧ W1.cell? ⟨u5.heap.size, 2, none⟩ = some (.int .i64 b) ∧ W1.cell? ⟨u5.heap.size, 3, none⟩ = some (.slice ax L.length cx))) ∧ Below u7.heap.size u7 W1) → Below W1.heap.size W1 W2 → (((W2.cell? ⟨w.heap.size, 0, none⟩ = some (.string s) ∧ W2.cell? ⟨w.heap.size, 1, none⟩ = some (.int .i64 a) ∧ W2.cell? ⟨w.heap.size, 2, none⟩ = some (.int .i64 b) ∧ W2.cell? ⟨w.heap.size, 3, none⟩ = some u) ∧ (W2.cell? ⟨u5.heap.size, 0, none⟩ = some (.string s) ∧ W2.cell? ⟨u5.heap.size, 1, none⟩ = some (.int .i64 a) ∧ W2.cell? ⟨u5.heap.size, 2, none⟩ = some (.int .i64 b) ∧ W2.cell? ⟨u5.heap.size, 3, none⟩ = some (.slice ax L.length cx))) ∧ Below u7.heap.size u7 W2)) := Lib.hid (fun W1 W2 h1 h2 => by
    obtain ⟨⟨⟨p0, p1, p2, p3⟩, ⟨r0, r1, r2, r3⟩⟩, hb⟩ := h1
    have z1 := Nat.lt_of_lt_of_le hsz9 hb.size
    have z2 := Nat.lt_of_lt_of_le hsx hb.size
    exact ⟨⟨⟨(bcell h2 _ _ z1).trans p0, (bcell h2 _ _ z1).trans p1, (bcell h2 _ _ z1).trans p2, (bcell h2 _ _ z1).trans p3⟩, ⟨(bcell h2 _ _ z2).trans r0, (bcell h2 _ _ z2).trans r1, (bcell h2 _ _ z2).trans r2, (bcell h2 _ _ z2).trans r3⟩⟩, below2 hb h2⟩)
  have hS : (((u7.cell? ⟨w.heap.size, 0, none⟩ = some (.string s) ∧ u7.cell? ⟨w.heap.size, 1, none⟩ = some (.int .i64 a) ∧ u7.cell? ⟨w.heap.size, 2, none⟩ = some (.int .i64 b) ∧ u7.cell? ⟨w.heap.size, 3, none⟩ = some u) ∧ (u7.cell? ⟨u5.heap.size, 0, none⟩ = some (.string s) ∧ u7.cell? ⟨u5.heap.size, 1, none⟩ = some (.int .i64 a) ∧ u7.cell? ⟨u5.heap.size, 2, none⟩ = some (.int .i64 b) ∧ u7.cell? ⟨u5.heap.size, 3, none⟩ = some (.slice ax L.length cx))) ∧ Below u7.heap.size u7 u7) := ⟨⟨⟨by simpa using hrng 0 _ rfl, by simpa using hrng 1 _ rfl, by simpa using hrng 2 _ rfl, by simpa using hrng 3 _ rfl⟩, ⟨by simpa using hrx 0 _ rfl, by simpa using hrx 1 _ rfl, by simpa using hrx 2 _ rfl, by simpa using hrx 3 _ rfl⟩⟩, Below.refl _ _⟩
  have cT := Lib.hid (fun W (hb : Below u7.heap.size u7 W) => toCoat_any s a b u L hz0.out W (hZ0'.out.below (D7.out.trans (hb.mono D7.out.size))))
  have cQ := Lib.hid (fun W V (hb : Below u7.heap.size u7 W) (h : IntsAt W V L) => eqCoat_any s a b _ V L hz0.out W (r5.out.below hb) h)
  clear hrng hrx
  go_wp2_with fail
  go_region_held3 (fun w' => (((w'.cell? ⟨w.heap.size, 0, none⟩ = some (.string s) ∧ w'.cell? ⟨w.heap.size, 1, none⟩ = some (.int .i64 a) ∧ w'.cell? ⟨w.heap.size, 2, none⟩ = some (.int .i64 b) ∧ w'.cell? ⟨w.heap.size, 3, none⟩ = some u) ∧ (w'.cell? ⟨u5.heap.size, 0, none⟩ = some (.string s) ∧ w'.cell? ⟨u5.heap.size, 1, none⟩ = some (.int .i64 a) ∧ w'.cell? ⟨u5.heap.size, 2, none⟩ = some (.int .i64 b) ∧ w'.cell? ⟨u5.heap.size, 3, none⟩ = some (.slice ax L.length cx))) ∧ Below u7.heap.size u7 w'))
    (first | exact ⟨hS.1, belowN hS.2 1⟩ | exact keepH.out _ _ (by assumption) (by assumption) | assumption)
    (first | (go_at_call 7; (with_reducible refine (cT.out _ (And.right (by assumption))).mono ?_); rintro e w' ⟨ve, rfl, oe, hbel⟩) | (go_at_call 9; (with_reducible refine (cQ.out _ _ (And.right (by assumption)) (ints_ownE oe hzz0.out)).mono ?_); rintro e u8 ⟨rfl, hbel⟩))
  rename_i hHeld
  have d8 := hHeld.2
  have hrng : u8.rangeAt w.heap.size 0 [.string s, .int .i64 a, .int .i64 b, u] := fun j v hv => by
    rw [Nat.zero_add]
    match j, hv with
    | 0, hv => exact (hHeld.1.1.1).trans (by simpa using hv)
    | 1, hv => exact (hHeld.1.1.2.1).trans (by simpa using hv)
    | 2, hv => exact (hHeld.1.1.2.2.1).trans (by simpa using hv)
    | 3, hv => exact (hHeld.1.1.2.2.2).trans (by simpa using hv)
  replace hsz9 := Nat.lt_of_lt_of_le hsz9 d8.size
  clear hS keepH cT cQ hHeld hsx
  have D8 := Lib.hid (D7.out.trans (d8.mono D7.out.size))
  have s8 := Lib.hid (d8.size)
  clear D7
  clear d8
  go_wp2
  go_ret
  exact ⟨rfl, by have := D8.out; first | exact this | simpa only [World.drewN_drewN] using this⟩

/-- A world for the witness: the settled one, the listed variables holding what their initialisers lay. -/
noncomputable def laidWorld (os : Os) : World :=
  let N := (World.settled Tryd.prog os).heap.size
  let w0 := World.holding Tryd.prog os ⟨#[], #[], []⟩
  let put (h : Array Obj) (g : Nat) (cs : Array Value) : Array Obj := h.modify g fun
    | .cells _ t frozen => .cells cs t frozen
    | o => o
  let h0 := put w0.heap 6 #[.int .u8 0, .int .u8 1, .int .u8 28, .int .u8 2, .int .u8 29, .int .u8 14, .int .u8 24, .int .u8 3, .int .u8 30, .int .u8 22, .int .u8 20, .int .u8 15, .int .u8 25, .int .u8 17, .int .u8 4, .int .u8 8, .int .u8 31, .int .u8 27, .int .u8 13, .int .u8 23, .int .u8 21, .int .u8 19, .int .u8 16, .int .u8 7, .int .u8 26, .int .u8 12, .int .u8 18, .int .u8 6, .int .u8 11, .int .u8 5, .int .u8 10, .int .u8 9]
  let h1 := put h0 7 #[.int .u8 0, .int .u8 1, .int .u8 56, .int .u8 2, .int .u8 57, .int .u8 49, .int .u8 28, .int .u8 3, .int .u8 61, .int .u8 58, .int .u8 42, .int .u8 50, .int .u8 38, .int .u8 29, .int .u8 17, .int .u8 4, .int .u8 62, .int .u8 47, .int .u8 59, .int .u8 36, .int .u8 45, .int .u8 43, .int .u8 51, .int .u8 22, .int .u8 53, .int .u8 39, .int .u8 33, .int .u8 30, .int .u8 24, .int .u8 18, .int .u8 12, .int .u8 5, .int .u8 63, .int .u8 55, .int .u8 48, .int .u8 27, .int .u8 60, .int .u8 41, .int .u8 37, .int .u8 16, .int .u8 46, .int .u8 35, .int .u8 44, .int .u8 21, .int .u8 52, .int .u8 32, .int .u8 23, .int .u8 11, .int .u8 54, .int .u8 26, .int .u8 40, .int .u8 15, .int .u8 34, .int .u8 20, .int .u8 31, .int .u8 10, .int .u8 25, .int .u8 14, .int .u8 19, .int .u8 9, .int .u8 13, .int .u8 8, .int .u8 7, .int .u8 6]
  let h2 := put h1 1 #[.int .u64 1, .int .u64 10, .int .u64 100, .int .u64 1000, .int .u64 10000, .int .u64 100000, .int .u64 1000000, .int .u64 10000000, .int .u64 100000000, .int .u64 1000000000, .int .u64 10000000000, .int .u64 100000000000, .int .u64 1000000000000, .int .u64 10000000000000, .int .u64 100000000000000, .int .u64 1000000000000000, .int .u64 10000000000000000, .int .u64 100000000000000000, .int .u64 1000000000000000000, .int .u64 10000000000000000000]
  { w0 with heap := h2 }
theorem laid_met (os : Os) : laidMet Tryd.prog Rows.fnExactCoatTextRow.laid ((laidWorld os).forCall (fun _ _ => 0) ⟨#[], #[.agg #[.string ByteArray.empty, .int .i64 0, .int .i64 0, .slice none 0 0]], []⟩).memory :=
  laidMet_of_run' 8 (by kernel_rfl) (by kernel_rfl)
theorem reads (os : Os) {H : Type} (enc : TypeId × Value → H) : ∃ places, DataW.whole enc Tryd.prog ((laidWorld os).forCall (fun _ _ => 0) ⟨#[], #[.agg #[.string ByteArray.empty, .int .i64 0, .int .i64 0, .slice none 0 0]], []⟩).memory Tryd.f3.params.toList Rows.fnExactCoatTextSpec.vars false (#[.agg #[.string ByteArray.empty, .int .i64 0, .int .i64 0, .slice none 0 0]] : Array Value).toList 8 = some ([.agg [.lit (.string []), .lit (.int .i64 0), .lit (.int .i64 0), .nil]], [], places) :=
  ⟨[], by kernel_rfl⟩
set_option maxRecDepth 100000 in
theorem lifted (os : Os) (started : os.Started) (H : Type) (enc : TypeId × Value → H) (F : Stop.Interp) :
    ReturnsInHanded {} Tryd.checked os 3 .any ((OpenSpec.ofChange Rows.fnExactCoatTextSpec).preRow enc Tryd.prog Tryd.f3 Rows.fnExactCoatTextRow.domain false Rows.fnExactCoatTextRow.laid) (((OpenSpec.ofChange Rows.fnExactCoatTextSpec).at F).post enc Tryd.prog Tryd.f3 false true false false) := by
  obtain ⟨places, hx⟩ := reads os enc
  refine returnsInHanded_of_row (C := Tryd.checked) (s := (OpenSpec.ofChange Rows.fnExactCoatTextSpec)) own started (by kernel_rfl) Tryd.func3
    (witness_row_at (enc := enc) (C := Tryd.checked) false (laidWorld os) #[.agg #[.string ByteArray.empty, .int .i64 0, .int .i64 0, .slice none 0 0]] rfl (by kernel_rfl) (by kernel_rfl) (by kernel_rfl)
      (OpenSpec.preRow_of_cond 8 hx (by kernel_rfl) (fun k hk => by cases hk) (by kernel_rfl) (laid_met os))) ?_
  intro W base args ds gs before hval0 hW hcnd hcond _ hL0 hShape _
  have hL : laidMet Tryd.prog Rows.fnExactCoatTextRow.laid W := hL0
  have hval : ∀ (j : Nat) t v, Tryd.f3.params[j]? = some t → args[j]? = some v → Value.okWide Tryd.prog W .any base t v := hval0
  have hW' := hW
  obtain ⟨p, q, hA0, hV, rfl, hfz, hnd⟩ := hW
  have hA : DataW.TrodAll enc Tryd.prog W 0 (fun _ => true) true Tryd.f3.params.toList args.toList ds p := hA0
  rw [Tryd.params3] at hA hval
  obtain ⟨v0, vs0, d0, ds0, p0, q0, hargs, rfl, rfl, h0, r0⟩ := trodAll_cons hA
  obtain ⟨rfl, rfl, rfl⟩ := trodAll_nil r0
  obtain rfl : args = #[v0] := by cases args; simp_all
  obtain ⟨rfl, rfl⟩ := trodVars_none hV
  have k0 := h0
  have lt0 : ∀ x ∈ p0, x.block < W.heap.size := by obtain ⟨m, hm⟩ := k0; exact DataW.trod_lt m _ _ _ hm
  have w0 : CtV W v0 := ct_open (hval 0 24 v0 rfl rfl) h0
  clear hA0 hval0
  refine (walk v0 W w0 (tabP_head hL.tail.tail)).mono fun e W' ⟨he, bel⟩ => ?_
  subst he
  exact ⟨_, rfl, _, _, _, [], _, [], hW', trodAll_mk1 (shut_bool Tryd.underlying4 _), (trodAll_cons_mk (Below.trod laidOut (by kernel_rfl) (of_decide_eq_true (by kernel_rfl)) k0 bel lt0) trodAll_mk0), rfl, bel.frame _, fun h => by cases h⟩

theorem said : Rows.FnExactCoatTextSaid :=
  OpenClaim.holds_of_cond 3 Tryd.f3 rfl rfl rfl rfl rfl rfl rfl ⟨rfl, rfl, rfl, rfl, rfl⟩ rfl rfl rfl rfl rfl (by kernel_rfl) Tryd.func3 (by kernel_rfl)
    (of_decide_eq_true (by kernel_rfl)) (by unfold Func.isWrapper; first | (rw [if_pos (by decide +kernel)]; kernel_rfl) | (rw [if_neg (by decide +kernel)]; exact ⟨rfl, rfl⟩))
    (fun os started H enc _ F => by rw [OpenClaim.pre_eq_preRow]; exact lifted os started H enc F)

theorem plain (f : FuncId) (fn : Func) (hf : Tryd.pinned.checked.prog.funcNamed "loop.example/g01061/laws.FnExactCoatText" = some f) (hfn : Tryd.pinned.checked.prog.funcs[f]? = some fn) :
    true = Tryd.pinned.checked.prog.looks [] ∧ ∀ (j : Nat) t, fn.params[j]? = some t → Tryd.pinned.checked.prog.wantsStandIn t = false := by
  obtain rfl : f = 3 := Option.some.inj ((show Tryd.prog.funcNamed "loop.example/g01061/laws.FnExactCoatText" = some 3 by kernel_rfl).symm.trans hf) |>.symm
  obtain rfl : fn = Tryd.f3 := (Option.some.inj (Tryd.func3.symm.trans hfn)).symm
  refine ⟨by kernel_rfl, fun j t ht => ?_⟩
  rw [Tryd.params3] at ht
  have hm := Array.mem_of_getElem? ht
  simp only [List.mem_toArray, List.mem_cons, List.mem_nil_iff, or_false] at hm
  rcases hm with rfl
  · exact (show Tryd.prog.wantsStandIn 24 = false by kernel_rfl)

/-- the statement -/
theorem proved : Rows.FnExactCoatTextCardSaid :=
  Claim7.holds_tied_plain_at .later [] _ _ _ _ said (fun _ h => by cases h) (by kernel_rfl) (fun _ h => by cases h) fnExactCoatText_row_tie rfl ⟨rfl, rfl⟩ (by kernel_rfl) rfl plain (by kernel_rfl)
#print axioms proved
end Go.Proofs.YtcgmpomhklhmaaaDoor.fnExactCoatText
