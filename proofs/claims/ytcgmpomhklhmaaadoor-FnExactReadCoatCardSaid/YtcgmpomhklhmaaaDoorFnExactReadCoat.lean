/-
  The law FnExactReadCoat holds for every input: the function answers as its model; the listed package-level variables are tied to the program's text.
-/
import Derived.Test.YtcgmpomhklhmaaaDoorCtH
import Derived.Test.YtcgmpomhklhmaaaDoorCards
import Derived.Test.YtcgmpomhklhmaaaDoorTie
import Derived.Lib.Hide
import Derived.WalkKit
import Derived.ProofKit
import Derived.OpenShut
import Derived.ShutString
import Derived.ChangeOld
import Derived.Below
import Derived.Deep.DeepHandedRow
import Derived.Deep.DeepWitnessRowRef
import Derived.Lib.LaidIn
import Derived.Lib.LaidTab
import Derived.SevenTiedAt
namespace Go.Proofs.YtcgmpomhklhmaaaDoor.fnExactReadCoat
open Go.ChangeShapes Go.WideShapes Go.ChangeAt Go.RowKit
open Go.ChangeMaps (open_string shut_string)
set_option linter.unusedVariables false
set_option linter.unusedSimpArgs false

theorem own : ownKnob Tryd.prog.godebug = none := by kernel_rfl
theorem laidOut : laidOutB Tryd.prog = true := by kernel_rfl
/-- WHAT THE WALK IS TOLD OF A SLICE OF INTEGERS THAT CAME IN: it is nil; or it leads to a row of 'cap' cells, the numbers 'zs' (the first 'len' are its elements, the rest its spare room), each fitting its kind. -/
def IsRow (k : IntKind) (w : World) (a : Option Addr) (len cap : Nat) (zs : List Int) : Prop :=
  (a = none ∧ len = 0 ∧ cap = 0 ∧ zs = []) ∨
  ∃ x, a = some x ∧ len ≤ cap ∧ cap ≤ maxLen ∧ zs.length = cap ∧ (∀ i, i < zs.length → w.cell? (x.add i) = some (.int k (zs.getD i 0))) ∧ ∀ n ∈ zs, (Lit.int k n).wf = true

set_option maxRecDepth 1000000 in
set_option maxHeartbeats 6400000 in
theorem walk (a0 : ByteArray) (w : World) (w0 : a0.size ≤ maxLen) (hT : TabP w) (hE : ErrsAt w) (hSh : w.ShapedOpen Tryd.prog) :
    Calls Tryd.prog 4 #[.string a0] w fun e w' => e = .returned (.bool true) ∧ Below w.heap.size w w' := by
  by_cases hL9 : a0.size ≤ 1048576
  rotate_left
  · go_enter Tryd.func4, Tryd.ntmps4
    go_wp2
    go_ret
    exact ⟨rfl, Below.refl _ _⟩
  obtain ⟨S, D, V, L, ok, ⟨hin0, hl⟩, hG⟩ := ctGive_of a0.data.toList
  have cs := Lib.hid (fun W => (specReadCoat_any a0 W hL9).mono fun e w' h => hG _ e w' h)
  have ci := Lib.hid (fun W (h1 : TabP W) (h2 : ErrsAt W) (h3 : W.ShapedOpen Tryd.prog) => (implReadCoat_any a0 W hL9 h1 h2 h3).mono fun e w' h => hG _ e w' h)
  have hin := Lib.hid hin0
  have hT9 := Lib.hid hT
  have hE9 := Lib.hid hE
  have hSh9 := Lib.hid hSh
  clear hin0 hG hT hE hSh
  cases ok
  all_goals
    go_enter Tryd.func4, Tryd.ntmps4
    go_wp2_with fail
    refine (cs.out w).mono ?_
    rintro e u1 ⟨a1, c1, rfl, o1, d1⟩
    have szw := Lib.hid d1.size
    have lo1 := Lib.hid (fun k hk => (o1.lt k hk).1)
    have hi1 := Lib.hid (fun k hk => (o1.lt k hk).2)
    replace o1 := Lib.hid o1
    have D1 := Lib.hid d1
    clear d1
    obtain ⟨q1, dx1, hs1⟩ := one_boxC u1 #[.string S, .int .i64 D, .int .i64 V, .slice a1 L.length c1] 27
    have rg1 : Hid ((u1.alloc (.cells #[.string S, .int .i64 D, .int .i64 V, .slice a1 L.length c1] 27)).rangeAt u1.heap.size 0 [.string S, .int .i64 D, .int .i64 V, .slice a1 L.length c1]) := Lib.hid (fun j v hv => by rw [Nat.zero_add]; exact q1 j v (by simpa using hv))
    clear q1
    have D2 := Lib.hid (D1.out.trans (dx1.mono D1.out.size))
    replace o1 := Lib.hid (own_kept8 o1.out dx1)
    clear D1
    clear dx1
    have sz1 : Hid (u1.heap.size < (u1.alloc (.cells #[.string S, .int .i64 D, .int .i64 V, .slice a1 L.length c1] 27)).heap.size ∧ w.heap.size ≤ u1.heap.size) := Lib.hid ⟨hs1, szw.out⟩
    go_wp2_with fail
    refine (ci.out (u1.alloc (.cells #[.string S, .int .i64 D, .int .i64 V, .slice a1 L.length c1] 27)) (hT9.out.below D2.out) (hE9.out.below D2.out) (shape_below hSh9.out D2.out)).mono ?_
    rintro e u2 ⟨a2, c2, rfl, o2, d2⟩
    have lo2 := Lib.hid (fun k hk => (o2.lt k hk).1)
    have hi2 := Lib.hid (fun k hk => (o2.lt k hk).2)
    replace o2 := Lib.hid o2
    have D3 := Lib.hid (D2.out.trans (d2.mono D2.out.size))
    replace rg1 := Lib.hid (range_below rg1.out hs1 d2)
    replace hs1 := Nat.lt_of_lt_of_le hs1 d2.size
    replace o1 := Lib.hid (own_kept8 o1.out d2)
    clear D2
    clear d2
    obtain ⟨q2, dx2, hs2⟩ := one_boxC u2 #[.string S, .int .i64 D, .int .i64 V, .slice a2 L.length c2] 27
    have rg2 : Hid ((u2.alloc (.cells #[.string S, .int .i64 D, .int .i64 V, .slice a2 L.length c2] 27)).rangeAt u2.heap.size 0 [.string S, .int .i64 D, .int .i64 V, .slice a2 L.length c2]) := Lib.hid (fun j v hv => by rw [Nat.zero_add]; exact q2 j v (by simpa using hv))
    clear q2
    have D4 := Lib.hid (D3.out.trans (dx2.mono D3.out.size))
    replace rg1 := Lib.hid (range_below rg1.out hs1 dx2)
    replace hs1 := Nat.lt_of_lt_of_le hs1 dx2.size
    replace o1 := Lib.hid (own_kept8 o1.out dx2)
    replace o2 := Lib.hid (own_kept8 o2.out dx2)
    clear D3
    clear dx2
    go_wp2_with (first | (refine wpList_load_mid rfl _ _ rfl u1.heap.size 0 rfl _ _ rg1.out Tryd.underlying27 rfl rfl ?_) | (refine wpList_load_mid rfl _ _ rfl u2.heap.size 0 rfl _ _ rg2.out Tryd.underlying27 rfl rfl ?_))
    refine (eqCoat_any S D V (.slice a2 L.length c2) (.slice a1 L.length c1) L hl _ (ints_own o2.out hin.out) (ints_own o1.out hin.out)).mono ?_
    rintro e u3 ⟨rfl, d3⟩
    have D5 := Lib.hid (D4.out.trans (d3.mono D4.out.size))
    replace rg1 := Lib.hid (range_below rg1.out hs1 d3)
    replace hs1 := Nat.lt_of_lt_of_le hs1 d3.size
    replace rg2 := Lib.hid (range_below rg2.out hs2 d3)
    replace hs2 := Nat.lt_of_lt_of_le hs2 d3.size
    replace o1 := Lib.hid (own_kept8 o1.out d3)
    replace o2 := Lib.hid (own_kept8 o2.out d3)
    clear D4
    clear d3
    obtain ⟨mk, hmk⟩ : ∃ m : Nat, m = 1 + L.length := ⟨_, rfl⟩
    have cM := markCoat_any S D V (.slice a2 L.length c2) L 1 _ u3 hl (by omega) (by omega) o2.out
    rw [← hmk] at cM
    have hmi : ¬ ((mk : Int) < 0) := by omega
    have hmb : 1 ≤ mk ∧ mk ≤ 1048577 := by omega
    replace hmk := Lib.hid hmk
    replace cM := Lib.hid cM
    go_wp2_with (first | (refine wpList_load_mid rfl _ _ rfl u1.heap.size 0 rfl _ _ rg1.out Tryd.underlying27 rfl rfl ?_) | (refine wpList_load_mid rfl _ _ rfl u2.heap.size 0 rfl _ _ rg2.out Tryd.underlying27 rfl rfl ?_))
    refine cM.out.mono ?_
    rintro e u4 ⟨rfl, p4, g4⟩
    have D6 := Lib.hid (D5.out.grown g4 D5.out.size (fun j hj => Nat.le_trans (by have q1 := sz1.out; omega) (lo2.out j hj)))
    have ne1 : ∀ j, (Value.slice a2 L.length c2).ownBlock = some j → (Value.slice a1 L.length c1).ownBlock ≠ some j := fun j hj h1 => by have q1 := lo2.out j hj; have q2 := hi1.out j h1; have q3 := sz1.out; omega
    have o1n := Lib.hid (o1.out.kept g4 (by
      cases e : (Value.slice a1 L.length c1).ownBlock with
      | none => exact Or.inl rfl
      | some b => right; intro hh; exact ne1 b hh.symm e))
    replace rg1 := Lib.hid (range_grown rg1.out hs1 g4 (fun hh => by have q1 := lo2.out _ hh.symm; have q3 := sz1.out; omega))
    replace rg2 := Lib.hid (range_grown rg2.out hs2 g4 (fun hh => by have q1 := hi2.out _ hh.symm; omega))
    replace hs1 := Nat.lt_of_lt_of_le hs1 g4.size
    replace hs2 := Nat.lt_of_lt_of_le hs2 g4.size
    replace o1 := o1n
    replace o2 := Lib.hid p4
    clear D5 g4 ne1 o1n p4 cM
    have cH := heldCoat_any S D V (.slice a2 L.length c2) L.length 1 _ u4 hl (by omega) (by omega) o2.out
    rw [← hmk.out] at cH
    replace cH := Lib.hid cH
    go_wp2_with (first | (refine wpList_load_mid rfl _ _ rfl u1.heap.size 0 rfl _ _ rg1.out Tryd.underlying27 rfl rfl ?_) | (refine wpList_load_mid rfl _ _ rfl u2.heap.size 0 rfl _ _ rg2.out Tryd.underlying27 rfl rfl ?_))
    refine cH.out.mono ?_
    rintro e u5 ⟨rfl, d5⟩
    clear cH
    have D7 := Lib.hid (D6.out.trans (d5.mono D6.out.size))
    replace rg1 := Lib.hid (range_below rg1.out hs1 d5)
    replace hs1 := Nat.lt_of_lt_of_le hs1 d5.size
    replace rg2 := Lib.hid (range_below rg2.out hs2 d5)
    replace hs2 := Nat.lt_of_lt_of_le hs2 d5.size
    replace o1 := Lib.hid (own_kept8 o1.out d5)
    replace o2 := Lib.hid (own_kept8 o2.out d5)
    clear D6
    clear d5
    go_wp2_with fail
    refine (ci.out u5 (hT9.out.below D7.out) (hE9.out.below D7.out) (shape_below hSh9.out D7.out)).mono ?_
    rintro e u6 ⟨a6, c6, rfl, o6, d6⟩
    have lo6 := Lib.hid (fun k hk => (o6.lt k hk).1)
    have hi6 := Lib.hid (fun k hk => (o6.lt k hk).2)
    replace o6 := Lib.hid o6
    have D8 := Lib.hid (D7.out.trans (d6.mono D7.out.size))
    replace rg1 := Lib.hid (range_below rg1.out hs1 d6)
    replace hs1 := Nat.lt_of_lt_of_le hs1 d6.size
    replace rg2 := Lib.hid (range_below rg2.out hs2 d6)
    replace hs2 := Nat.lt_of_lt_of_le hs2 d6.size
    replace o1 := Lib.hid (own_kept8 o1.out d6)
    replace o2 := Lib.hid (own_kept8 o2.out d6)
    clear D7
    clear d6
    obtain ⟨q6, dx6, hs6⟩ := one_boxC u6 #[.string S, .int .i64 D, .int .i64 V, .slice a6 L.length c6] 27
    have rg6 : Hid ((u6.alloc (.cells #[.string S, .int .i64 D, .int .i64 V, .slice a6 L.length c6] 27)).rangeAt u6.heap.size 0 [.string S, .int .i64 D, .int .i64 V, .slice a6 L.length c6]) := Lib.hid (fun j v hv => by rw [Nat.zero_add]; exact q6 j v (by simpa using hv))
    clear q6
    have D9 := Lib.hid (D8.out.trans (dx6.mono D8.out.size))
    replace rg1 := Lib.hid (range_below rg1.out hs1 dx6)
    replace hs1 := Nat.lt_of_lt_of_le hs1 dx6.size
    replace rg2 := Lib.hid (range_below rg2.out hs2 dx6)
    replace hs2 := Nat.lt_of_lt_of_le hs2 dx6.size
    replace o1 := Lib.hid (own_kept8 o1.out dx6)
    replace o2 := Lib.hid (own_kept8 o2.out dx6)
    replace o6 := Lib.hid (own_kept8 o6.out dx6)
    clear D8
    clear dx6
    go_wp2_with (first | (refine wpList_load_mid rfl _ _ rfl u1.heap.size 0 rfl _ _ rg1.out Tryd.underlying27 rfl rfl ?_) | (refine wpList_load_mid rfl _ _ rfl u2.heap.size 0 rfl _ _ rg2.out Tryd.underlying27 rfl rfl ?_) | (refine wpList_load_mid rfl _ _ rfl u6.heap.size 0 rfl _ _ rg6.out Tryd.underlying27 rfl rfl ?_))
    refine (eqCoat_any S D V (.slice a6 L.length c6) (.slice a1 L.length c1) L hl _ (ints_own o6.out hin.out) (ints_own o1.out hin.out)).mono ?_
    rintro e u7 ⟨rfl, d7⟩
    have D10 := Lib.hid (D9.out.trans (d7.mono D9.out.size))
    replace rg1 := Lib.hid (range_below rg1.out hs1 d7)
    replace hs1 := Nat.lt_of_lt_of_le hs1 d7.size
    replace rg2 := Lib.hid (range_below rg2.out hs2 d7)
    replace hs2 := Nat.lt_of_lt_of_le hs2 d7.size
    replace rg6 := Lib.hid (range_below rg6.out hs6 d7)
    replace hs6 := Nat.lt_of_lt_of_le hs6 d7.size
    replace o1 := Lib.hid (own_kept8 o1.out d7)
    replace o2 := Lib.hid (own_kept8 o2.out d7)
    replace o6 := Lib.hid (own_kept8 o6.out d7)
    clear D9
    clear d7
    have cH := heldCoat_any S D V (.slice a2 L.length c2) L.length 1 _ u7 hl (by omega) (by omega) o2.out
    rw [← hmk.out] at cH
    replace cH := Lib.hid cH
    go_wp2_with (first | (refine wpList_load_mid rfl _ _ rfl u1.heap.size 0 rfl _ _ rg1.out Tryd.underlying27 rfl rfl ?_) | (refine wpList_load_mid rfl _ _ rfl u2.heap.size 0 rfl _ _ rg2.out Tryd.underlying27 rfl rfl ?_) | (refine wpList_load_mid rfl _ _ rfl u6.heap.size 0 rfl _ _ rg6.out Tryd.underlying27 rfl rfl ?_))
    refine cH.out.mono ?_
    rintro e u8 ⟨rfl, d8⟩
    clear cH
    have D11 := Lib.hid (D10.out.trans (d8.mono D10.out.size))
    replace rg1 := Lib.hid (range_below rg1.out hs1 d8)
    replace hs1 := Nat.lt_of_lt_of_le hs1 d8.size
    replace rg2 := Lib.hid (range_below rg2.out hs2 d8)
    replace hs2 := Nat.lt_of_lt_of_le hs2 d8.size
    replace rg6 := Lib.hid (range_below rg6.out hs6 d8)
    replace hs6 := Nat.lt_of_lt_of_le hs6 d8.size
    replace o1 := Lib.hid (own_kept8 o1.out d8)
    replace o2 := Lib.hid (own_kept8 o2.out d8)
    replace o6 := Lib.hid (own_kept8 o6.out d8)
    clear D10
    clear d8
    go_wp2
    go_ret
    exact ⟨rfl, D11.out⟩

/-- A world for the witness: the settled one, the listed variables holding what their initialisers lay. -/
noncomputable def laidWorld (os : Os) : World :=
  let N := (World.settled Tryd.prog os).heap.size
  let w0 := World.holding Tryd.prog os ⟨#[.cells #[.string ⟨([118, 97, 108, 117, 101, 32, 111, 117, 116, 32, 111, 102, 32, 114, 97, 110, 103, 101] : List UInt8).toArray⟩] 127, .cells #[.string ⟨([105, 110, 118, 97, 108, 105, 100, 32, 115, 121, 110, 116, 97, 120] : List UInt8).toArray⟩] 127], #[], []⟩
  let put (h : Array Obj) (g : Nat) (cs : Array Value) : Array Obj := h.modify g fun
    | .cells _ t frozen => .cells cs t frozen
    | o => o
  let h0 := put w0.heap 6 #[.int .u8 0, .int .u8 1, .int .u8 28, .int .u8 2, .int .u8 29, .int .u8 14, .int .u8 24, .int .u8 3, .int .u8 30, .int .u8 22, .int .u8 20, .int .u8 15, .int .u8 25, .int .u8 17, .int .u8 4, .int .u8 8, .int .u8 31, .int .u8 27, .int .u8 13, .int .u8 23, .int .u8 21, .int .u8 19, .int .u8 16, .int .u8 7, .int .u8 26, .int .u8 12, .int .u8 18, .int .u8 6, .int .u8 11, .int .u8 5, .int .u8 10, .int .u8 9]
  let h1 := put h0 7 #[.int .u8 0, .int .u8 1, .int .u8 56, .int .u8 2, .int .u8 57, .int .u8 49, .int .u8 28, .int .u8 3, .int .u8 61, .int .u8 58, .int .u8 42, .int .u8 50, .int .u8 38, .int .u8 29, .int .u8 17, .int .u8 4, .int .u8 62, .int .u8 47, .int .u8 59, .int .u8 36, .int .u8 45, .int .u8 43, .int .u8 51, .int .u8 22, .int .u8 53, .int .u8 39, .int .u8 33, .int .u8 30, .int .u8 24, .int .u8 18, .int .u8 12, .int .u8 5, .int .u8 63, .int .u8 55, .int .u8 48, .int .u8 27, .int .u8 60, .int .u8 41, .int .u8 37, .int .u8 16, .int .u8 46, .int .u8 35, .int .u8 44, .int .u8 21, .int .u8 52, .int .u8 32, .int .u8 23, .int .u8 11, .int .u8 54, .int .u8 26, .int .u8 40, .int .u8 15, .int .u8 34, .int .u8 20, .int .u8 31, .int .u8 10, .int .u8 25, .int .u8 14, .int .u8 19, .int .u8 9, .int .u8 13, .int .u8 8, .int .u8 7, .int .u8 6]
  let h2 := put h1 1 #[.int .u64 1, .int .u64 10, .int .u64 100, .int .u64 1000, .int .u64 10000, .int .u64 100000, .int .u64 1000000, .int .u64 10000000, .int .u64 100000000, .int .u64 1000000000, .int .u64 10000000000, .int .u64 100000000000, .int .u64 1000000000000, .int .u64 10000000000000, .int .u64 100000000000000, .int .u64 1000000000000000, .int .u64 10000000000000000, .int .u64 100000000000000000, .int .u64 1000000000000000000, .int .u64 10000000000000000000]
  let h3 := put h2 5 #[.int .u8 128, .int .u8 191, .int .u8 160, .int .u8 191, .int .u8 128, .int .u8 159, .int .u8 144, .int .u8 191, .int .u8 128, .int .u8 143, .int .u8 0, .int .u8 0, .int .u8 0, .int .u8 0, .int .u8 0, .int .u8 0, .int .u8 0, .int .u8 0, .int .u8 0, .int .u8 0, .int .u8 0, .int .u8 0, .int .u8 0, .int .u8 0, .int .u8 0, .int .u8 0, .int .u8 0, .int .u8 0, .int .u8 0, .int .u8 0, .int .u8 0, .int .u8 0]
  let h4 := put h3 3 #[.iface 125 (.pointer (some ⟨N + 0, 0, none⟩))]
  let h5 := put h4 2 #[.iface 125 (.pointer (some ⟨N + 1, 0, none⟩))]
  let h6 := put h5 4 (Lib.firstTab.map fun z => Value.int .u8 z).toArray
  { w0 with heap := h6 }
noncomputable abbrev N0 : Nat := (World.settled Tryd.prog default).heap.size
set_option maxRecDepth 1000000 in
theorem laid_met (os : Os) : laidMet Tryd.prog Rows.fnExactReadCoatRow.laid ((laidWorld os).forCall (fun _ _ => 0) ⟨#[], #[.string ByteArray.empty], []⟩).memory :=
  (LaidIn.of_run (l := Rows.fnExactReadCoatRow.laid) [6, 7, 1, 5, 3, N0 + 0, 2, N0 + 1, 4] 10 (by kernel_rfl) (by kernel_rfl) (by kernel_rfl) (by kernel_rfl)).met
theorem reads (os : Os) {H : Type} (enc : TypeId × Value → H) : ∃ places, DataW.whole enc Tryd.prog ((laidWorld os).forCall (fun _ _ => 0) ⟨#[], #[.string ByteArray.empty], []⟩).memory Tryd.f4.params.toList Rows.fnExactReadCoatSpec.vars false (#[.string ByteArray.empty] : Array Value).toList 8 = some ([.lit (.string [])], [], places) :=
  ⟨[], by kernel_rfl⟩
set_option maxRecDepth 100000 in
theorem lifted (os : Os) (started : os.Started) (H : Type) (enc : TypeId × Value → H) (F : Stop.Interp) :
    ReturnsInHanded {} Tryd.checked os 4 .any ((OpenSpec.ofChange Rows.fnExactReadCoatSpec).preRow enc Tryd.prog Tryd.f4 Rows.fnExactReadCoatRow.domain false Rows.fnExactReadCoatRow.laid) (((OpenSpec.ofChange Rows.fnExactReadCoatSpec).at F).post enc Tryd.prog Tryd.f4 false true false false) := by
  obtain ⟨places, hx⟩ := reads os enc
  refine returnsInHanded_of_row (C := Tryd.checked) (s := (OpenSpec.ofChange Rows.fnExactReadCoatSpec)) own started (by kernel_rfl) Tryd.func4
    (witness_row_atRef (enc := enc) (C := Tryd.checked) false (laidWorld os) #[.string ByteArray.empty] rfl (by kernel_rfl) (by kernel_rfl) (by kernel_rfl)
      (OpenSpec.preRow_of_cond 8 hx (by kernel_rfl) (fun k hk => by cases hk) (by kernel_rfl) (laid_met os))) ?_
  intro W base args ds gs before hval0 hW hcnd hcond _ hL0 hShape _
  have hL : laidMet Tryd.prog Rows.fnExactReadCoatRow.laid W := hL0
  have hval : ∀ (j : Nat) t v, Tryd.f4.params[j]? = some t → args[j]? = some v → Value.okWide Tryd.prog W .any base t v := hval0
  have hW' := hW
  obtain ⟨p, q, hA0, hV, rfl, hfz, hnd⟩ := hW
  have hA : DataW.TrodAll enc Tryd.prog W 0 (fun _ => true) true Tryd.f4.params.toList args.toList ds p := hA0
  rw [Tryd.params4] at hA hval
  obtain ⟨v0, vs0, d0, ds0, p0, q0, hargs, rfl, rfl, h0, r0⟩ := trodAll_cons hA
  obtain ⟨rfl, rfl, rfl⟩ := trodAll_nil r0
  obtain rfl : args = #[v0] := by cases args; simp_all
  obtain ⟨rfl, rfl⟩ := trodVars_none hV
  obtain ⟨a0, rfl, rfl, rfl, w0⟩ := open_string Tryd.underlying9 (hval 0 9 v0 rfl rfl) h0
  clear hA0 hval0
  refine (walk a0 W w0 (tabP_head hL.tail.tail) (errs_of_laid hL.tail.tail.tail.tail) (hShape)).mono fun e W' ⟨he, bel⟩ => ?_
  subst he
  exact ⟨_, rfl, _, _, _, [], _, [], hW', trodAll_mk1 (shut_bool Tryd.underlying4 _), (trodAll_cons_mk (shut_string Tryd.underlying9 w0) trodAll_mk0), rfl, bel.frame _, fun h => by cases h⟩

theorem said : Rows.FnExactReadCoatSaid :=
  OpenClaim.holds_of_cond 4 Tryd.f4 rfl rfl rfl rfl rfl rfl rfl ⟨rfl, rfl, rfl, rfl, rfl⟩ rfl rfl rfl rfl rfl (by kernel_rfl) Tryd.func4 (by kernel_rfl)
    (of_decide_eq_true (by kernel_rfl)) (by unfold Func.isWrapper; first | (rw [if_pos (by decide +kernel)]; kernel_rfl) | (rw [if_neg (by decide +kernel)]; exact ⟨rfl, rfl⟩))
    (fun os started H enc _ F => by rw [OpenClaim.pre_eq_preRow]; exact lifted os started H enc F)

theorem plain (f : FuncId) (fn : Func) (hf : Tryd.pinned.checked.prog.funcNamed "loop.example/g01061/laws.FnExactReadCoat" = some f) (hfn : Tryd.pinned.checked.prog.funcs[f]? = some fn) :
    true = Tryd.pinned.checked.prog.looks [] ∧ ∀ (j : Nat) t, fn.params[j]? = some t → Tryd.pinned.checked.prog.wantsStandIn t = false := by
  obtain rfl : f = 4 := Option.some.inj ((show Tryd.prog.funcNamed "loop.example/g01061/laws.FnExactReadCoat" = some 4 by kernel_rfl).symm.trans hf) |>.symm
  obtain rfl : fn = Tryd.f4 := (Option.some.inj (Tryd.func4.symm.trans hfn)).symm
  refine ⟨by kernel_rfl, fun j t ht => ?_⟩
  rw [Tryd.params4] at ht
  have hm := Array.mem_of_getElem? ht
  simp only [List.mem_toArray, List.mem_cons, List.mem_nil_iff, or_false] at hm
  rcases hm with rfl
  · exact (show Tryd.prog.wantsStandIn 9 = false by kernel_rfl)

/-- the statement -/
theorem proved : Rows.FnExactReadCoatCardSaid :=
  Claim7.holds_tied_plain_at .later [] _ _ _ _ said (fun _ h => by cases h) (by kernel_rfl) (fun _ h => by cases h) fnExactReadCoat_row_tie rfl ⟨rfl, rfl⟩ (by kernel_rfl) rfl plain (by kernel_rfl)
#print axioms proved
end Go.Proofs.YtcgmpomhklhmaaaDoor.fnExactReadCoat
