/-
  The law FnExactFewestCoats holds for every input: the function answers as its model; conditions: none beside the row's own.
-/
import Derived.Test.YtjnpladpegmiiaaFew
import Derived.Test.YtjnpladpegmiiaaFei
import Derived.Lib.Hide
import Derived.Test.YtjnpladpegmiiaaRows
import Derived.WalkKit
import Derived.ProofKit
import Derived.OpenShut
import Derived.ShutString
import Derived.ChangeOld
import Derived.Below
namespace Go.Proofs.Ytjnpladpegmiiaa.fnExactFewestCoats
open Go.ChangeShapes Go.WideShapes Go.ChangeAt Go.RowKit
open Go.ChangeMaps (open_string shut_string)
set_option linter.unusedVariables false

theorem own : ownKnob Try.prog.godebug = none := by kernel_rfl
theorem laidOut : laidOutB Try.prog = true := by kernel_rfl

/-- WHAT THE WALK IS TOLD OF A SLICE OF INTEGERS THAT CAME IN: it is nil; or it leads to a row of 'cap' cells, the numbers 'zs' (the first 'len' are its elements, the rest its spare room), each fitting its kind. -/
def IsRow (k : IntKind) (w : World) (a : Option Addr) (len cap : Nat) (zs : List Int) : Prop :=
  (a = none ∧ len = 0 ∧ cap = 0 ∧ zs = []) ∨
  ∃ x, a = some x ∧ len ≤ cap ∧ cap ≤ maxLen ∧ zs.length = cap ∧ (∀ i, i < zs.length → w.cell? (x.add i) = some (.int k (zs.getD i 0))) ∧ ∀ n ∈ zs, (Lit.int k n).wf = true

/-! ### STEP 1: THE WALK: the Go text returns true, AND WRITES NOTHING THAT WAS THERE: 'Below w.heap.size w w'' (Derived/Below.lean: '.refl', '.alloc', '.drew', '.setCell' at a new block, '.trans'). Open each 'IsRow' by 'rcases' AHEAD of 'go_enter'; part every test ahead of the walk. -/
set_option maxHeartbeats 3200000 in
set_option maxRecDepth 1000000 in
theorem walk (a0 : Value) (a1 : Option Addr) (len1 cap1 : Nat) (z1 : List Int) (a2 : Option Addr) (len2 cap2 : Nat) (z2 : List Int) (a3 : Int) (w : World) (w0 : CtV w a0) (w1 : IsRow .i64 w a1 len1 cap1 z1) (w2 : IsRow .i64 w a2 len2 cap2 z2) (w3 : (Lit.int .i64 a3).wf = true) :
    Calls Try.prog 7 #[a0, .slice a1 len1 cap1, .slice a2 len2 cap2, .int .i64 a3] w fun e w' => e = .returned (.bool true) ∧ Below w.heap.size w w' := by
  obtain ⟨s, a, b, u, L, rfl, hs, hLl, hZ0⟩ := w0
  have hzz0 : Hid (∀ n ∈ L, inI n) := Lib.hid (by obtain ⟨_, _, _, _, h, _⟩ := hZ0; exact h)
  have hZ0' := Lib.hid hZ0
  clear hZ0
  obtain ⟨G1, hG1, hl1⟩ := ints_in w1
  have hG1' := Lib.hid hG1
  have hzz1 : Hid (∀ n ∈ G1, inI n) := Lib.hid (by obtain ⟨_, _, _, _, h, _⟩ := hG1; exact h)
  clear hG1 w1
  obtain ⟨G2, hG2, hl2⟩ := ints_in w2
  have hG2' := Lib.hid hG2
  have hzz2 : Hid (∀ n ∈ G2, inI n) := Lib.hid (by obtain ⟨_, _, _, _, h, _⟩ := hG2; exact h)
  clear hG2 w2
  by_cases hL1 : len1 ≤ 1048576
  rotate_left
  · go_enter Try.func7, Try.ntmps7
    go_wp2
    go_ret
    exact ⟨rfl, (Below.refl _ _).alloc (Nat.le_refl _) _⟩
  by_cases hL2 : len2 ≤ 1048576
  rotate_left
  · go_enter Try.func7, Try.ntmps7
    go_wp2
    go_ret
    exact ⟨rfl, (Below.refl _ _).alloc (Nat.le_refl _) _⟩
  have hg1 : G1.length ≤ 1048576 := by omega
  have hg2 : G2.length ≤ 1048576 := by omega
  have hct : Hid (ctLeft s L 1048576 = if (s.size : Int) + L.length ≤ 1048576 then (1048576 : Int) - s.size - L.length else -1) := Lib.hid rfl
  obtain ⟨n, hnn⟩ : ∃ n, n = ctLeft s L 1048576 := ⟨_, rfl⟩
  have hn9 : -1 ≤ n ∧ n ≤ 1048576 ∧ (0 ≤ n → (s.size : Int) + L.length ≤ 1048576) := by rw [hnn, hct.out]; split <;> omega
  obtain ⟨q9, hB9, hsz9⟩ := one_boxC w #[.string s, .int .i64 a, .int .i64 b, u] 42
  have hrng : (w.alloc (.cells #[.string s, .int .i64 a, .int .i64 b, u] 42)).rangeAt w.heap.size 0 [.string s, .int .i64 a, .int .i64 b, u] := fun j v hv => by rw [Nat.zero_add]; exact q9 j v (by simpa using hv)
  obtain ⟨W0, hW0⟩ : ∃ W0, W0 = w.alloc (.cells #[.string s, .int .i64 a, .int .i64 b, u] 42) := ⟨_, rfl⟩
  rw [← hW0] at hB9 hsz9 hrng
  clear q9
  have cz := Lib.hid (szCoat_any s a b u L 1048576 (by omega) (by omega) hs hLl W0 (hZ0'.out.below hB9))
  rw [← hnn] at cz
  clear hnn hct
  go_enter Try.func7, Try.ntmps7
  go_upto_region 1 with fail
  rw [← hW0]
  clear hW0
  have D1 := Lib.hid hB9
  have s1 := Lib.hid hB9.size
  clear hB9
  go_wp2_with (refine wpList_load_mid rfl _ _ rfl w.heap.size 0 rfl _ _ hrng Try.underlying42 rfl rfl ?_)
  refine cz.out.mono ?_
  rintro e u2 ⟨rfl, d2⟩
  by_cases hneg : n < 0
  · go_wp2
    go_ret
    exact ⟨rfl, D1.out.trans (d2.mono D1.out.size)⟩
  have D2 := Lib.hid (D1.out.trans (d2.mono D1.out.size))
  have s2 := Lib.hid (d2.size)
  replace hrng := range_below hrng hsz9 d2
  replace hsz9 := Nat.lt_of_lt_of_le hsz9 d2.size
  clear D1
  clear d2
  have hz9 := hn9.2.2 (by omega)
  have hz0 : Hid (L.length ≤ 1048576) := Lib.hid (by omega)
  clear hn9 hz9
  have cs := fun V0 V1 V2 W (h0 : IntsAt W V0 L) (h1 : IntsAt W V1 G1) (h2 : IntsAt W V2 G2) => specFewestCoats_any s a b V0 L V1 G1 V2 G2 a3 W hs hLl h0 hg1 h1 hg2 h2
  have ci := fun V0 V1 V2 W (h0 : IntsAt W V0 L) (h1 : IntsAt W V1 G1) (h2 : IntsAt W V2 G2) => implFewestCoats_any s a b V0 L V1 G1 V2 G2 a3 W hs hLl h0 hg1 h1 hg2 h2
  obtain ⟨R0, hR0⟩ : ∃ R0, R0 = fewV s a b L G1 G2 a3 := ⟨_, rfl⟩
  rw [← hR0] at cs ci
  clear hR0
  obtain ⟨R1, hR1⟩ : ∃ R1, R1 = fewC s a b L G1 G2 a3 := ⟨_, rfl⟩
  rw [← hR1] at cs ci
  clear hR1
  have cs' := Lib.hid cs
  have ci' := Lib.hid ci
  clear cs ci
  go_wp2_with (refine wpList_load_mid rfl _ _ rfl w.heap.size 0 rfl _ _ hrng Try.underlying42 rfl rfl ?_)
  refine (toCoat_any s a b u L hz0.out _ (hZ0'.out.below D2.out)).mono ?_
  rintro e u3 ⟨v3, rfl, o3, d3⟩
  have D3 := Lib.hid (D2.out.trans (d3.mono D2.out.size))
  have s3 := Lib.hid (d3.size)
  replace hrng := range_below hrng hsz9 d3
  replace hsz9 := Nat.lt_of_lt_of_le hsz9 d3.size
  clear D2
  clear d3
  have r3 := Lib.hid (ints_ownE o3 hzz0.out)
  clear o3
  go_wp2_with (refine wpList_load_mid rfl _ _ rfl w.heap.size 0 rfl _ _ hrng Try.underlying42 rfl rfl ?_)
  refine (toInt64S_any _ G1 _ hg1 (hG1'.out.below D3.out)).mono ?_
  rintro e u4 ⟨v4, rfl, o4, d4⟩
  have D4 := Lib.hid (D3.out.trans (d4.mono D3.out.size))
  have s4 := Lib.hid (d4.size)
  replace r3 := Lib.hid (r3.out.below d4)
  replace hrng := range_below hrng hsz9 d4
  replace hsz9 := Nat.lt_of_lt_of_le hsz9 d4.size
  clear D3
  clear d4
  have r4 := Lib.hid (ints_ownE o4 hzz1.out)
  clear o4
  go_wp2_with (refine wpList_load_mid rfl _ _ rfl w.heap.size 0 rfl _ _ hrng Try.underlying42 rfl rfl ?_)
  refine (toInt64S_any _ G2 _ hg2 (hG2'.out.below D4.out)).mono ?_
  rintro e u5 ⟨v5, rfl, o5, d5⟩
  have D5 := Lib.hid (D4.out.trans (d5.mono D4.out.size))
  have s5 := Lib.hid (d5.size)
  replace r3 := Lib.hid (r3.out.below d5)
  replace r4 := Lib.hid (r4.out.below d5)
  replace hrng := range_below hrng hsz9 d5
  replace hsz9 := Nat.lt_of_lt_of_le hsz9 d5.size
  clear D4
  clear d5
  have r5 := Lib.hid (ints_ownE o5 hzz2.out)
  clear o5
  go_wp2_with (refine wpList_load_mid rfl _ _ rfl w.heap.size 0 rfl _ _ hrng Try.underlying42 rfl rfl ?_)
  refine (cs'.out _ _ _ _ r3.out r4.out r5.out).mono ?_
  rintro e u6 ⟨rfl, d6⟩
  have D6 := Lib.hid (D5.out.trans (d6.mono D5.out.size))
  have s6 := Lib.hid (d6.size)
  replace r3 := Lib.hid (r3.out.below d6)
  replace r4 := Lib.hid (r4.out.below d6)
  replace r5 := Lib.hid (r5.out.below d6)
  replace hrng := range_below hrng hsz9 d6
  replace hsz9 := Nat.lt_of_lt_of_le hsz9 d6.size
  clear D5
  clear d6
  clear r3
  clear r4
  clear r5
  go_wp2_with (refine wpList_load_mid rfl _ _ rfl w.heap.size 0 rfl _ _ hrng Try.underlying42 rfl rfl ?_)
  refine (toCoat_any s a b u L hz0.out _ (hZ0'.out.below D6.out)).mono ?_
  rintro e u7 ⟨v7, rfl, o7, d7⟩
  obtain ⟨ax, cx, rfl⟩ := ownShape o7
  have D7 := Lib.hid (D6.out.trans (d7.mono D6.out.size))
  have s7 := Lib.hid (d7.size)
  replace hrng := range_below hrng hsz9 d7
  replace hsz9 := Nat.lt_of_lt_of_le hsz9 d7.size
  clear D6
  clear d7
  have r7 := Lib.hid (ints_ownE o7 hzz0.out)
  clear o7
  obtain ⟨q8, d8x, hsx⟩ := one_boxC u7 #[.string s, .int .i64 a, .int .i64 b, .slice ax L.length cx] 45
  have hrx : (u7.alloc (.cells #[.string s, .int .i64 a, .int .i64 b, .slice ax L.length cx] 45)).rangeAt u7.heap.size 0 [.string s, .int .i64 a, .int .i64 b, .slice ax L.length cx] := fun j v hv => by rw [Nat.zero_add]; exact q8 j v (by simpa using hv)
  clear q8
  have D8 := Lib.hid (D7.out.trans (d8x.mono D7.out.size))
  have s8 := Lib.hid (d8x.size)
  replace r7 := Lib.hid (r7.out.below d8x)
  replace hrng := range_below hrng hsz9 d8x
  replace hsz9 := Nat.lt_of_lt_of_le hsz9 d8x.size
  clear D7
  clear d8x
  go_wp2_with (first | (refine wpList_load_mid rfl _ _ rfl w.heap.size 0 rfl _ _ hrng Try.underlying42 rfl rfl ?_) | (refine wpList_load_mid rfl _ _ rfl u7.heap.size 0 rfl _ _ hrx Try.underlying45 rfl rfl ?_))
  refine (toInt64S_any _ G1 _ hg1 (hG1'.out.below D8.out)).mono ?_
  rintro e u9 ⟨v9, rfl, o9, d9⟩
  have D9 := Lib.hid (D8.out.trans (d9.mono D8.out.size))
  have s9 := Lib.hid (d9.size)
  replace r7 := Lib.hid (r7.out.below d9)
  replace hrng := range_below hrng hsz9 d9
  replace hsz9 := Nat.lt_of_lt_of_le hsz9 d9.size
  replace hrx := range_below hrx hsx d9
  replace hsx := Nat.lt_of_lt_of_le hsx d9.size
  clear D8
  clear d9
  have r9 := Lib.hid (ints_ownE o9 hzz1.out)
  clear o9
  go_wp2_with (first | (refine wpList_load_mid rfl _ _ rfl w.heap.size 0 rfl _ _ hrng Try.underlying42 rfl rfl ?_) | (refine wpList_load_mid rfl _ _ rfl u7.heap.size 0 rfl _ _ hrx Try.underlying45 rfl rfl ?_))
  refine (toInt64S_any _ G2 _ hg2 (hG2'.out.below D9.out)).mono ?_
  rintro e u10 ⟨v10, rfl, o10, d10⟩
  have D10 := Lib.hid (D9.out.trans (d10.mono D9.out.size))
  have s10 := Lib.hid (d10.size)
  replace r7 := Lib.hid (r7.out.below d10)
  replace r9 := Lib.hid (r9.out.below d10)
  replace hrng := range_below hrng hsz9 d10
  replace hsz9 := Nat.lt_of_lt_of_le hsz9 d10.size
  replace hrx := range_below hrx hsx d10
  replace hsx := Nat.lt_of_lt_of_le hsx d10.size
  clear D9
  clear d10
  have r10 := Lib.hid (ints_ownE o10 hzz2.out)
  clear o10
  go_wp2_with (first | (refine wpList_load_mid rfl _ _ rfl w.heap.size 0 rfl _ _ hrng Try.underlying42 rfl rfl ?_) | (refine wpList_load_mid rfl _ _ rfl u7.heap.size 0 rfl _ _ hrx Try.underlying45 rfl rfl ?_))
  refine (ci'.out _ _ _ _ r7.out r9.out r10.out).mono ?_
  rintro e u11 ⟨rfl, d11⟩
  have D11 := Lib.hid (D10.out.trans (d11.mono D10.out.size))
  have s11 := Lib.hid (d11.size)
  replace r7 := Lib.hid (r7.out.below d11)
  replace r9 := Lib.hid (r9.out.below d11)
  replace r10 := Lib.hid (r10.out.below d11)
  replace hrng := range_below hrng hsz9 d11
  replace hsz9 := Nat.lt_of_lt_of_le hsz9 d11.size
  replace hrx := range_below hrx hsx d11
  replace hsx := Nat.lt_of_lt_of_le hsx d11.size
  clear D10
  clear d11
  have keepH : Hid (∀ W1 W2, (((W1.cell? ⟨w.heap.size, 0, none⟩ = some (.string s) ∧ W1.cell? ⟨w.heap.size, 1, none⟩ = some (.int .i64 a) ∧ W1.cell? ⟨w.heap.size, 2, none⟩ = some (.int .i64 b) ∧ W1.cell? ⟨w.heap.size, 3, none⟩ = some u) ∧ (W1.cell? ⟨u7.heap.size, 0, none⟩ = some (.string s) ∧ W1.cell? ⟨u7.heap.size, 1, none⟩ = some (.int .i64 a) ∧ W1.cell? ⟨u7.heap.size, 2, none⟩ = some (.int .i64 b) ∧ W1.cell? ⟨u7.heap.size, 3, none⟩ = some (.slice ax L.length cx))) ∧ Below u11.heap.size u11 W1) → Below W1.heap.size W1 W2 → (((W2.cell? ⟨w.heap.size, 0, none⟩ = some (.string s) ∧ W2.cell? ⟨w.heap.size, 1, none⟩ = some (.int .i64 a) ∧ W2.cell? ⟨w.heap.size, 2, none⟩ = some (.int .i64 b) ∧ W2.cell? ⟨w.heap.size, 3, none⟩ = some u) ∧ (W2.cell? ⟨u7.heap.size, 0, none⟩ = some (.string s) ∧ W2.cell? ⟨u7.heap.size, 1, none⟩ = some (.int .i64 a) ∧ W2.cell? ⟨u7.heap.size, 2, none⟩ = some (.int .i64 b) ∧ W2.cell? ⟨u7.heap.size, 3, none⟩ = some (.slice ax L.length cx))) ∧ Below u11.heap.size u11 W2)) := Lib.hid (fun W1 W2 h1 h2 => by
    obtain ⟨⟨⟨p0, p1, p2, p3⟩, ⟨r0, r1, r2, r3⟩⟩, hb⟩ := h1
    have z1 := Nat.lt_of_lt_of_le hsz9 hb.size
    have z2 := Nat.lt_of_lt_of_le hsx hb.size
    exact ⟨⟨⟨(bcell h2 _ _ z1).trans p0, (bcell h2 _ _ z1).trans p1, (bcell h2 _ _ z1).trans p2, (bcell h2 _ _ z1).trans p3⟩, ⟨(bcell h2 _ _ z2).trans r0, (bcell h2 _ _ z2).trans r1, (bcell h2 _ _ z2).trans r2, (bcell h2 _ _ z2).trans r3⟩⟩, below2 hb h2⟩)
  have hS : (((u11.cell? ⟨w.heap.size, 0, none⟩ = some (.string s) ∧ u11.cell? ⟨w.heap.size, 1, none⟩ = some (.int .i64 a) ∧ u11.cell? ⟨w.heap.size, 2, none⟩ = some (.int .i64 b) ∧ u11.cell? ⟨w.heap.size, 3, none⟩ = some u) ∧ (u11.cell? ⟨u7.heap.size, 0, none⟩ = some (.string s) ∧ u11.cell? ⟨u7.heap.size, 1, none⟩ = some (.int .i64 a) ∧ u11.cell? ⟨u7.heap.size, 2, none⟩ = some (.int .i64 b) ∧ u11.cell? ⟨u7.heap.size, 3, none⟩ = some (.slice ax L.length cx))) ∧ Below u11.heap.size u11 u11) := ⟨⟨⟨by simpa using hrng 0 _ rfl, by simpa using hrng 1 _ rfl, by simpa using hrng 2 _ rfl, by simpa using hrng 3 _ rfl⟩, ⟨by simpa using hrx 0 _ rfl, by simpa using hrx 1 _ rfl, by simpa using hrx 2 _ rfl, by simpa using hrx 3 _ rfl⟩⟩, Below.refl _ _⟩
  have cT := Lib.hid (fun W (hb : Below u11.heap.size u11 W) => toCoat_any s a b u L hz0.out W (hZ0'.out.below (D11.out.trans (hb.mono D11.out.size))))
  have cQ := Lib.hid (fun W V (hb : Below u11.heap.size u11 W) (h : IntsAt W V L) => eqCoat_any s a b _ V L hz0.out W (r7.out.below hb) h)
  clear hrng hrx
  go_wp2_with fail
  go_region_held3 (fun w' => (((w'.cell? ⟨w.heap.size, 0, none⟩ = some (.string s) ∧ w'.cell? ⟨w.heap.size, 1, none⟩ = some (.int .i64 a) ∧ w'.cell? ⟨w.heap.size, 2, none⟩ = some (.int .i64 b) ∧ w'.cell? ⟨w.heap.size, 3, none⟩ = some u) ∧ (w'.cell? ⟨u7.heap.size, 0, none⟩ = some (.string s) ∧ w'.cell? ⟨u7.heap.size, 1, none⟩ = some (.int .i64 a) ∧ w'.cell? ⟨u7.heap.size, 2, none⟩ = some (.int .i64 b) ∧ w'.cell? ⟨u7.heap.size, 3, none⟩ = some (.slice ax L.length cx))) ∧ Below u11.heap.size u11 w'))
    (first | exact ⟨hS.1, belowN hS.2 1⟩ | exact keepH.out _ _ (by assumption) (by assumption) | assumption)
    (first | (go_at_call 31; (with_reducible refine (cT.out _ (And.right (by assumption))).mono ?_); rintro e w' ⟨ve, rfl, oe, hbel⟩) | (go_at_call 33; (with_reducible refine (cQ.out _ _ (And.right (by assumption)) (ints_ownE oe hzz0.out)).mono ?_); rintro e u12 ⟨rfl, hbel⟩))
  rename_i hHeld
  have d12 := hHeld.2
  have hrng : u12.rangeAt w.heap.size 0 [.string s, .int .i64 a, .int .i64 b, u] := fun j v hv => by
    rw [Nat.zero_add]
    match j, hv with
    | 0, hv => exact (hHeld.1.1.1).trans (by simpa using hv)
    | 1, hv => exact (hHeld.1.1.2.1).trans (by simpa using hv)
    | 2, hv => exact (hHeld.1.1.2.2.1).trans (by simpa using hv)
    | 3, hv => exact (hHeld.1.1.2.2.2).trans (by simpa using hv)
  replace hsz9 := Nat.lt_of_lt_of_le hsz9 d12.size
  clear hS keepH cT cQ hHeld hsx
  have D12 := Lib.hid (D11.out.trans (d12.mono D11.out.size))
  have s12 := Lib.hid (d12.size)
  replace r9 := Lib.hid (r9.out.below d12)
  replace r10 := Lib.hid (r10.out.below d12)
  clear D11
  clear d12
  go_wp2_with (refine wpList_load_mid rfl _ _ rfl w.heap.size 0 rfl _ _ hrng Try.underlying42 rfl rfl ?_)
  refine (toInt64S_any _ G1 _ hg1 (hG1'.out.below D12.out)).mono ?_
  rintro e u13 ⟨v13, rfl, o13, d13⟩
  have D13 := Lib.hid (D12.out.trans (d13.mono D12.out.size))
  have s13 := Lib.hid (d13.size)
  replace r9 := Lib.hid (r9.out.below d13)
  replace r10 := Lib.hid (r10.out.below d13)
  replace hrng := range_below hrng hsz9 d13
  replace hsz9 := Nat.lt_of_lt_of_le hsz9 d13.size
  clear D12
  clear d13
  have r13 := Lib.hid (ints_ownE o13 hzz1.out)
  clear o13
  go_wp2_with (refine wpList_load_mid rfl _ _ rfl w.heap.size 0 rfl _ _ hrng Try.underlying42 rfl rfl ?_)
  refine (eqInt64S_any _ _ G1 _ (by omega) r9.out r13.out).mono ?_
  rintro e _ ⟨rfl, m14, rfl⟩
  have D14 := Lib.hid (belowN D13.out m14)
  have s14 : Hid (u13.heap.size ≤ (u13.drewN m14).heap.size) := Lib.hid (Nat.le_refl _)
  replace r9 := Lib.hid (r9.out.below (belowN (Below.refl _ _) m14))
  replace r10 := Lib.hid (r10.out.below (belowN (Below.refl _ _) m14))
  replace r13 := Lib.hid (r13.out.below (belowN (Below.refl _ _) m14))
  replace hrng := range_below hrng hsz9 (belowN (Below.refl _ _) m14)
  replace hsz9 : w.heap.size < (u13.drewN m14).heap.size := hsz9
  clear D13
  clear r13
  go_wp2_with (refine wpList_load_mid rfl _ _ rfl w.heap.size 0 rfl _ _ hrng Try.underlying42 rfl rfl ?_)
  refine (toInt64S_any _ G2 _ hg2 (hG2'.out.below D14.out)).mono ?_
  rintro e u15 ⟨v15, rfl, o15, d15⟩
  have D15 := Lib.hid (D14.out.trans (d15.mono D14.out.size))
  have s15 := Lib.hid (d15.size)
  replace r9 := Lib.hid (r9.out.below d15)
  replace r10 := Lib.hid (r10.out.below d15)
  replace hrng := range_below hrng hsz9 d15
  replace hsz9 := Nat.lt_of_lt_of_le hsz9 d15.size
  clear D14
  clear d15
  have r15 := Lib.hid (ints_ownE o15 hzz2.out)
  clear o15
  go_wp2_with (refine wpList_load_mid rfl _ _ rfl w.heap.size 0 rfl _ _ hrng Try.underlying42 rfl rfl ?_)
  refine (eqInt64S_any _ _ G2 _ (by omega) r10.out r15.out).mono ?_
  rintro e _ ⟨rfl, m16, rfl⟩
  have D16 := Lib.hid (belowN D15.out m16)
  have s16 : Hid (u15.heap.size ≤ (u15.drewN m16).heap.size) := Lib.hid (Nat.le_refl _)
  replace r9 := Lib.hid (r9.out.below (belowN (Below.refl _ _) m16))
  replace r10 := Lib.hid (r10.out.below (belowN (Below.refl _ _) m16))
  replace r15 := Lib.hid (r15.out.below (belowN (Below.refl _ _) m16))
  replace hrng := range_below hrng hsz9 (belowN (Below.refl _ _) m16)
  replace hsz9 : w.heap.size < (u15.drewN m16).heap.size := hsz9
  clear D15
  clear r15
  go_wp2
  go_ret
  exact ⟨rfl, by have := D16.out; first | exact this | simpa only [World.drewN_drewN] using this⟩


/-! ### THE ROW's STEP: WRITTEN OUT: LEAVE IT -/
set_option maxRecDepth 100000 in
theorem lifted (os : Os) (started : os.Started) (H : Type) (enc : TypeId × Value → H) :
    ReturnsInHanded {} Try.checked os 7 .any (Rows.fnExactFewestCoatsSpec.pre6 enc Try.prog Try.f7 Rows.fnExactFewestCoatsRow.domain false) (Rows.fnExactFewestCoatsSpec.post enc Try.prog Try.f7 false true false false) := by
  refine returnsInHanded_of_change (C := Try.checked) own started (by kernel_rfl) Try.func7
    (ChangeSpec.witness6 (enc := enc) (C := Try.checked) false ⟨#[], #[.agg #[.string ByteArray.empty, .int .i64 0, .int .i64 0, .slice none 0 0], .slice none 0 0, .slice none 0 0, .int .i64 0], []⟩ 8 (by kernel_rfl) (by kernel_rfl) (by kernel_rfl) (by kernel_rfl)) ?_
  intro W base args ds gs before hval0 hW hcnd _
  have hval : ∀ (j : Nat) t v, Try.f7.params[j]? = some t → args[j]? = some v → Value.okWide Try.prog W .any base t v := hval0
  have hW' := hW
  obtain ⟨p, q, hA0, hV, rfl, hfz, hnd⟩ := hW
  have hA : DataW.TrodAll enc Try.prog W 0 (fun _ => true) true Try.f7.params.toList args.toList ds p := hA0
  rw [Try.params7] at hA hval
  obtain ⟨v0, vs0, d0, ds0, p0, q0, hargs, rfl, rfl, h0, r0⟩ := trodAll_cons hA
  obtain ⟨v1, vs1, d1, ds1, p1, q1, rfl, rfl, rfl, h1, r1⟩ := trodAll_cons r0
  obtain ⟨v2, vs2, d2, ds2, p2, q2, rfl, rfl, rfl, h2, r2⟩ := trodAll_cons r1
  obtain ⟨v3, vs3, d3, ds3, p3, q3, rfl, rfl, rfl, h3, r3⟩ := trodAll_cons r2
  obtain ⟨rfl, rfl, rfl⟩ := trodAll_nil r3
  obtain rfl : args = #[v0, v1, v2, v3] := by cases args; simp_all
  obtain ⟨rfl, rfl⟩ := trodVars_none hV
  have k0 := h0
  have lt0 : ∀ x ∈ p0, x.block < W.heap.size := by obtain ⟨m, hm⟩ := k0; exact DataW.trod_lt m _ _ _ hm
  have w0 : CtV W v0 := ct_open (hval 0 42 v0 rfl rfl) h0
  obtain ⟨a1, len1, cap1, rfl⟩ := okWide_slice Try.underlying29 (hval 1 29 v1 rfl rfl)
  have k1 := h1
  have lt1 : ∀ x ∈ p1, x.block < W.heap.size := by obtain ⟨m, hm⟩ := k1; exact DataW.trod_lt m _ _ _ hm
  obtain ⟨z1, w1⟩ : ∃ zs, IsRow .i64 W a1 len1 cap1 zs := by
    obtain ⟨fuel, hf⟩ := h1
    rcases open_ints Try.underlying29 Try.underlying2 (by kernel_rfl) hf with ⟨hcs, _⟩ | ⟨x, l, c, zs, hcs, _, hl, hm, hz, _, hcell, hwz⟩
    · simp [Value.cells] at hcs
      obtain ⟨rfl, rfl, rfl⟩ := hcs
      exact ⟨[], .inl ⟨rfl, rfl, rfl, rfl⟩⟩
    · simp [Value.cells] at hcs
      obtain ⟨rfl, rfl, rfl⟩ := hcs
      exact ⟨zs, .inr ⟨_, rfl, hl, hm, by simpa using hz, hcell, hwz⟩⟩
  obtain ⟨a2, len2, cap2, rfl⟩ := okWide_slice Try.underlying29 (hval 2 29 v2 rfl rfl)
  have k2 := h2
  have lt2 : ∀ x ∈ p2, x.block < W.heap.size := by obtain ⟨m, hm⟩ := k2; exact DataW.trod_lt m _ _ _ hm
  obtain ⟨z2, w2⟩ : ∃ zs, IsRow .i64 W a2 len2 cap2 zs := by
    obtain ⟨fuel, hf⟩ := h2
    rcases open_ints Try.underlying29 Try.underlying2 (by kernel_rfl) hf with ⟨hcs, _⟩ | ⟨x, l, c, zs, hcs, _, hl, hm, hz, _, hcell, hwz⟩
    · simp [Value.cells] at hcs
      obtain ⟨rfl, rfl, rfl⟩ := hcs
      exact ⟨[], .inl ⟨rfl, rfl, rfl, rfl⟩⟩
    · simp [Value.cells] at hcs
      obtain ⟨rfl, rfl, rfl⟩ := hcs
      exact ⟨zs, .inr ⟨_, rfl, hl, hm, by simpa using hz, hcell, hwz⟩⟩
  obtain ⟨a3, rfl, rfl, rfl, w3⟩ := open_int Try.underlying2 (hval 3 2 v3 rfl rfl) h3
  clear hA0 hval0
  refine (walk v0 a1 len1 cap1 z1 a2 len2 cap2 z2 a3 W w0 w1 w2 w3).mono fun e W' ⟨he, bel⟩ => ?_
  subst he
  exact ⟨_, rfl, _, _, _, [], _, [], hW', trodAll_mk1 (shut_bool Try.underlying4 _), (trodAll_cons_mk (Below.trod laidOut (by kernel_rfl) (of_decide_eq_true (by kernel_rfl)) k0 bel lt0) (trodAll_cons_mk (Below.trod laidOut (by kernel_rfl) (of_decide_eq_true (by kernel_rfl)) k1 bel lt1) (trodAll_cons_mk (Below.trod laidOut (by kernel_rfl) (of_decide_eq_true (by kernel_rfl)) k2 bel lt2) (trodAll_cons_mk (shut_int Try.underlying2 w3) trodAll_mk0)))), rfl, bel.frame _, fun h => by cases h⟩

theorem over : Rows.fnExactFewestCoatsRow.holds Try.pinned (OpenSpec.ofChange Rows.fnExactFewestCoatsSpec) :=
  OpenClaim.holds_of_wide 7 Try.f7 rfl rfl rfl rfl rfl rfl rfl ⟨rfl, rfl, rfl, rfl, rfl⟩ rfl rfl rfl rfl rfl (by kernel_rfl) Try.func7 (by kernel_rfl)
    (of_decide_eq_true (by kernel_rfl)) (by unfold Func.isWrapper; first | (rw [if_pos (by decide +kernel)]; kernel_rfl) | (rw [if_neg (by decide +kernel)]; exact ⟨rfl, rfl⟩))
    (fun os started H enc _ => lifted os started H enc)

/-- ████ THE STATEMENT ████ -/
theorem proved : Rows.FnExactFewestCoatsSaid := over
#print axioms proved
end Go.Proofs.Ytjnpladpegmiiaa.fnExactFewestCoats
