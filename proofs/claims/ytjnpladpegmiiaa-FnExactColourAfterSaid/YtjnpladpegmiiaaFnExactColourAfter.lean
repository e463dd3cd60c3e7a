/-
  The law FnExactColourAfter holds for every input: the function answers as its model; conditions: none beside the row's own.
-/
import Derived.Test.YtjnpladpegmiiaaAfs
import Derived.Test.YtjnpladpegmiiaaAfi
import Derived.Test.YtjnpladpegmiiaaCtsW
import Derived.Test.YtjnpladpegmiiaaCtsM
import Derived.Test.YtjnpladpegmiiaaRowE
import Derived.Lib.Hide
import Derived.Test.YtjnpladpegmiiaaRows
import Derived.WalkKit
import Derived.ProofKit
import Derived.OpenShut
import Derived.ShutString
import Derived.ChangeOld
import Derived.Below
namespace Go.Proofs.Ytjnpladpegmiiaa.fnExactColourAfter
open Go.ChangeShapes Go.WideShapes Go.ChangeAt Go.RowKit
open Go.ChangeMaps (open_string shut_string)
set_option linter.unusedVariables false

theorem own : ownKnob Try.prog.godebug = none := by kernel_rfl
theorem laidOut : laidOutB Try.prog = true := by kernel_rfl

/-- WHAT THE WALK IS TOLD OF A SLICE OF INTEGERS THAT CAME IN: it is nil; or it leads to a row of 'cap' cells, the numbers 'zs' (the first 'len' are its elements, the rest its spare room), each fitting its kind. -/
def IsRow (k : IntKind) (w : World) (a : Option Addr) (len cap : Nat) (zs : List Int) : Prop :=
  (a = none ∧ len = 0 ∧ cap = 0 ∧ zs = []) ∨
  ∃ x, a = some x ∧ len ≤ cap ∧ cap ≤ maxLen ∧ zs.length = cap ∧ (∀ i, i < zs.length → w.cell? (x.add i) = some (.int k (zs.getD i 0))) ∧ ∀ n ∈ zs, (Lit.int k n).wf = true

/-! ### STEP 1: THE WALK: the Go text returns true, AND WRITES NOTHING THAT WAS THERE: 'Below w.heap.size w w'' (Derived/Below.lean: '.refl', '.alloc', '.drew', '.setCell' at a new block, '.trans'). Open each 'IsRow' by 'rcases' AHEAD of 'go_enter'; part every test ahead of the walk. -/
set_option maxHeartbeats 3200000 in
set_option maxRecDepth 1000000 in
theorem walk (a0 : Value) (a1 : Option Addr) (len1 cap1 : Nat) (z1 : List Int) (a2 : Option Addr) (len2 cap2 : Nat) (z2 : List Int) (w : World) (w0 : CtsV w a0) (w1 : IsRow .i64 w a1 len1 cap1 z1) (w2 : IsRow .i64 w a2 len2 cap2 z2) :
    Calls Try.prog 5 #[a0, .slice a1 len1 cap1, .slice a2 len2 cap2] w fun e w' => e = .returned (.bool true) ∧ Below w.heap.size w w' := by
  obtain ⟨Z0, hZ0, hZl0⟩ := w0
  have hZ0' := Lib.hid hZ0
  clear hZ0
  obtain ⟨G1, hG1, hl1⟩ := ints_in w1
  have hG1' := Lib.hid hG1
  have hzz1 : Hid (∀ n ∈ G1, inI n) := Lib.hid (by obtain ⟨_, _, _, _, h, _⟩ := hG1; exact h)
  clear hG1 w1
  obtain ⟨G2, hG2, hl2⟩ := ints_in w2
  have hG2' := Lib.hid hG2
  have hzz2 : Hid (∀ n ∈ G2, inI n) := Lib.hid (by obtain ⟨_, _, _, _, h, _⟩ := hG2; exact h)
  clear hG2 w2
  by_cases hL1 : len1 ≤ 1048576
  rotate_left
  · go_enter Try.func5, Try.ntmps5
    go_wp2
    go_ret
    exact ⟨rfl, Below.refl _ _⟩
  by_cases hL2 : len2 ≤ 1048576
  rotate_left
  · go_enter Try.func5, Try.ntmps5
    go_wp2
    go_ret
    exact ⟨rfl, Below.refl _ _⟩
  have hg1 : G1.length ≤ 1048576 := by omega
  have hg2 : G2.length ≤ 1048576 := by omega
  go_enter Try.func5, Try.ntmps5
  go_wp2_with fail
  refine (szCoatS_any a0 Z0 _ hZl0 hZ0'.out).mono ?_
  rintro e u1 ⟨n, rfl, hn0, hn1, hn2, d1⟩
  by_cases hneg : n < 0
  · go_wp2
    go_ret
    exact ⟨rfl, d1⟩
  have D1 := Lib.hid d1
  have s1 := Lib.hid (d1.size)
  clear d1
  obtain ⟨hzl, hids⟩ := hn2 (by omega)
  have hz0 := Lib.hid hzl
  have hzn0 : Z0.length ≤ 1048576 := by omega
  clear hn2 hids hzl hZl0
  have cs := fun V0 V1 V2 W (h0 : CtsAt W V0 Z0) (h1 : IntsAt W V1 G1) (h2 : IntsAt W V2 G2) => specColourAfter_any V0 Z0 V1 G1 V2 G2 W hzn0 h0 hg1 h1 hg2 h2
  have ci := fun V0 V1 V2 W (h0 : CtsAt W V0 Z0) (h1 : IntsAt W V1 G1) (h2 : IntsAt W V2 G2) => implColourAfter_any V0 Z0 V1 G1 V2 G2 W hzn0 h0 hg1 h1 hg2 h2
  obtain ⟨hin, hl20⟩ := aft_in Z0 G1 G2
  obtain ⟨LL, hLL⟩ : ∃ LL, LL = aftV Z0 G1 G2 := ⟨_, rfl⟩
  rw [← hLL] at cs ci hin hl20
  obtain ⟨cc, hcc⟩ : ∃ cc, cc = aftC Z0 G1 G2 := ⟨_, rfl⟩
  rw [← hcc] at cs ci
  clear hcc hLL
  have hin' := Lib.hid hin
  have hl20' : LL.length ≤ 1048576 := by omega
  have hl20 : Hid (LL.length ≤ 1048577) := Lib.hid (by omega)
  clear hin
  have cs' := Lib.hid cs
  have ci' := Lib.hid ci
  clear cs ci
  go_wp2_with fail
  refine (toCoatS_new a0 Z0 _ hz0.out (hZ0'.out.below D1.out)).mono ?_
  rintro e u2 ⟨us2, rfl, O2, r2, d2⟩
  have D2 := Lib.hid (D1.out.trans (d2.mono D1.out.size))
  have s2 := Lib.hid (d2.size)
  clear D1
  clear d2
  replace r2 := Lib.hid r2
  clear O2
  go_wp2_with fail
  refine (toInt64S_any _ G1 _ hg1 (hG1'.out.below D2.out)).mono ?_
  rintro e u3 ⟨v3, rfl, o3, d3⟩
  have D3 := Lib.hid (D2.out.trans (d3.mono D2.out.size))
  have s3 := Lib.hid (d3.size)
  replace r2 := Lib.hid (r2.out.below d3)
  clear D2
  clear d3
  have r3 := Lib.hid (ints_ownE o3 hzz1.out)
  clear o3
  go_wp2_with fail
  refine (toInt64S_any _ G2 _ hg2 (hG2'.out.below D3.out)).mono ?_
  rintro e u4 ⟨v4, rfl, o4, d4⟩
  have D4 := Lib.hid (D3.out.trans (d4.mono D3.out.size))
  have s4 := Lib.hid (d4.size)
  replace r2 := Lib.hid (r2.out.below d4)
  replace r3 := Lib.hid (r3.out.below d4)
  clear D3
  clear d4
  have r4 := Lib.hid (ints_ownE o4 hzz2.out)
  clear o4
  go_wp2_with fail
  refine (cs'.out _ _ _ _ r2.out r3.out r4.out).mono ?_
  rintro e u5 ⟨v5, rfl, o5, d5⟩
  have D5 := Lib.hid (D4.out.trans (d5.mono D4.out.size))
  have s5 := Lib.hid (d5.size)
  replace r2 := Lib.hid (r2.out.below d5)
  replace r3 := Lib.hid (r3.out.below d5)
  replace r4 := Lib.hid (r4.out.below d5)
  clear D4
  clear d5
  have lov5 := Lib.hid (fun k hk => (o5.lt k hk).1)
  have hiv5 := Lib.hid (fun k hk => (o5.lt k hk).2)
  replace o5 := Lib.hid o5
  clear r2
  clear r3
  clear r4
  go_wp2_with fail
  refine (toCoatS_new a0 Z0 _ hz0.out (hZ0'.out.below D5.out)).mono ?_
  rintro e u6 ⟨us6, rfl, O6, r6, d6⟩
  have D6 := Lib.hid (D5.out.trans (d6.mono D5.out.size))
  have s6 := Lib.hid (d6.size)
  replace o5 := Lib.hid (own_kept' o5.out d6)
  clear D5
  clear d6
  replace r6 := Lib.hid r6
  replace O6 := Lib.hid O6
  go_wp2_with fail
  refine (toInt64S_any _ G1 _ hg1 (hG1'.out.below D6.out)).mono ?_
  rintro e u7 ⟨v7, rfl, o7, d7⟩
  have D7 := Lib.hid (D6.out.trans (d7.mono D6.out.size))
  have s7 := Lib.hid (d7.size)
  replace r6 := Lib.hid (r6.out.below d7)
  replace o5 := Lib.hid (own_kept' o5.out d7)
  replace O6 := Lib.hid (O6.out.kept d7)
  clear D6
  clear d7
  have lov7 := Lib.hid (fun k hk => (o7.lt k hk).1)
  have hiv7 := Lib.hid (fun k hk => (o7.lt k hk).2)
  replace o7 := Lib.hid o7
  go_wp2_with fail
  refine (toInt64S_any _ G2 _ hg2 (hG2'.out.below D7.out)).mono ?_
  rintro e u8 ⟨v8, rfl, o8, d8⟩
  have D8 := Lib.hid (D7.out.trans (d8.mono D7.out.size))
  have s8 := Lib.hid (d8.size)
  replace r6 := Lib.hid (r6.out.below d8)
  replace o5 := Lib.hid (own_kept' o5.out d8)
  replace o7 := Lib.hid (own_kept' o7.out d8)
  replace O6 := Lib.hid (O6.out.kept d8)
  clear D7
  clear d8
  have lov8 := Lib.hid (fun k hk => (o8.lt k hk).1)
  have hiv8 := Lib.hid (fun k hk => (o8.lt k hk).2)
  replace o8 := Lib.hid o8
  go_wp2_with fail
  refine (ci'.out _ _ _ _ r6.out (ints_ownE o7.out hzz1.out) (ints_ownE o8.out hzz2.out)).mono ?_
  rintro e u9 ⟨v9, rfl, o9, d9⟩
  have D9 := Lib.hid (D8.out.trans (d9.mono D8.out.size))
  have s9 := Lib.hid (d9.size)
  replace r6 := Lib.hid (r6.out.below d9)
  replace o5 := Lib.hid (own_kept' o5.out d9)
  replace o7 := Lib.hid (own_kept' o7.out d9)
  replace o8 := Lib.hid (own_kept' o8.out d9)
  replace O6 := Lib.hid (O6.out.kept d9)
  clear D8
  clear d9
  have lov9 := Lib.hid (fun k hk => (o9.lt k hk).1)
  have hiv9 := Lib.hid (fun k hk => (o9.lt k hk).2)
  replace o9 := Lib.hid o9
  go_wp2_with fail
  refine (eqInt64S_any v9 v5 LL _ hl20.out (ints_ownE o9.out hin'.out) (ints_ownE o5.out hin'.out)).mono ?_
  rintro e _ ⟨rfl, m10, rfl⟩
  have D10 := Lib.hid (belowN D9.out m10)
  have s10 : Hid (u9.heap.size ≤ (u9.drewN m10).heap.size) := Lib.hid (Nat.le_refl _)
  replace r6 := Lib.hid (r6.out.below (belowN (Below.refl _ _) m10))
  replace o5 := Lib.hid (own_kept' o5.out (belowN (Below.refl _ _) m10))
  replace o7 := Lib.hid (own_kept' o7.out (belowN (Below.refl _ _) m10))
  replace o8 := Lib.hid (own_kept' o8.out (belowN (Below.refl _ _) m10))
  replace o9 := Lib.hid (own_kept' o9.out (belowN (Below.refl _ _) m10))
  replace O6 := Lib.hid (O6.out.kept (belowN (Below.refl _ _) m10))
  clear D9
  go_wp2_with fail
  refine (toCoatS_new a0 Z0 _ hz0.out (hZ0'.out.below D10.out)).mono ?_
  rintro e u11 ⟨us11, rfl, O11, r11, d11⟩
  have D11 := Lib.hid (D10.out.trans (d11.mono D10.out.size))
  have s11 := Lib.hid (d11.size)
  replace r6 := Lib.hid (r6.out.below d11)
  replace o5 := Lib.hid (own_kept' o5.out d11)
  replace o7 := Lib.hid (own_kept' o7.out d11)
  replace o8 := Lib.hid (own_kept' o8.out d11)
  replace o9 := Lib.hid (own_kept' o9.out d11)
  replace O6 := Lib.hid (O6.out.kept d11)
  clear D10
  clear d11
  replace r11 := Lib.hid r11
  clear O11
  go_wp2_with fail
  refine (eqCoatS_any _ _ Z0 _ hz0.out r6.out r11.out).mono ?_
  rintro e u12 ⟨rfl, d12⟩
  have D12 := Lib.hid (D11.out.trans (d12.mono D11.out.size))
  have s12 := Lib.hid (d12.size)
  replace r6 := Lib.hid (r6.out.below d12)
  replace r11 := Lib.hid (r11.out.below d12)
  replace o5 := Lib.hid (own_kept' o5.out d12)
  replace o7 := Lib.hid (own_kept' o7.out d12)
  replace o8 := Lib.hid (own_kept' o8.out d12)
  replace o9 := Lib.hid (own_kept' o9.out d12)
  replace O6 := Lib.hid (O6.out.kept d12)
  clear D11
  clear d12
  clear r11
  go_wp2_with fail
  refine (toInt64S_any _ G1 _ hg1 (hG1'.out.below D12.out)).mono ?_
  rintro e u13 ⟨v13, rfl, o13, d13⟩
  have D13 := Lib.hid (D12.out.trans (d13.mono D12.out.size))
  have s13 := Lib.hid (d13.size)
  replace r6 := Lib.hid (r6.out.below d13)
  replace o5 := Lib.hid (own_kept' o5.out d13)
  replace o7 := Lib.hid (own_kept' o7.out d13)
  replace o8 := Lib.hid (own_kept' o8.out d13)
  replace o9 := Lib.hid (own_kept' o9.out d13)
  replace O6 := Lib.hid (O6.out.kept d13)
  clear D12
  clear d13
  have r13 := Lib.hid (ints_ownE o13 hzz1.out)
  clear o13
  go_wp2_with fail
  refine (eqInt64S_any _ _ G1 _ (by omega) (ints_ownE o7.out hzz1.out) r13.out).mono ?_
  rintro e _ ⟨rfl, m14, rfl⟩
  have D14 := Lib.hid (belowN D13.out m14)
  have s14 : Hid (u13.heap.size ≤ (u13.drewN m14).heap.size) := Lib.hid (Nat.le_refl _)
  replace r6 := Lib.hid (r6.out.below (belowN (Below.refl _ _) m14))
  replace r13 := Lib.hid (r13.out.below (belowN (Below.refl _ _) m14))
  replace o5 := Lib.hid (own_kept' o5.out (belowN (Below.refl _ _) m14))
  replace o7 := Lib.hid (own_kept' o7.out (belowN (Below.refl _ _) m14))
  replace o8 := Lib.hid (own_kept' o8.out (belowN (Below.refl _ _) m14))
  replace o9 := Lib.hid (own_kept' o9.out (belowN (Below.refl _ _) m14))
  replace O6 := Lib.hid (O6.out.kept (belowN (Below.refl _ _) m14))
  clear D13
  clear r13
  go_wp2_with fail
  refine (toInt64S_any _ G2 _ hg2 (hG2'.out.below D14.out)).mono ?_
  rintro e u15 ⟨v15, rfl, o15, d15⟩
  have D15 := Lib.hid (D14.out.trans (d15.mono D14.out.size))
  have s15 := Lib.hid (d15.size)
  replace r6 := Lib.hid (r6.out.below d15)
  replace o5 := Lib.hid (own_kept' o5.out d15)
  replace o7 := Lib.hid (own_kept' o7.out d15)
  replace o8 := Lib.hid (own_kept' o8.out d15)
  replace o9 := Lib.hid (own_kept' o9.out d15)
  replace O6 := Lib.hid (O6.out.kept d15)
  clear D14
  clear d15
  have r15 := Lib.hid (ints_ownE o15 hzz2.out)
  clear o15
  go_wp2_with fail
  refine (eqInt64S_any _ _ G2 _ (by omega) (ints_ownE o8.out hzz2.out) r15.out).mono ?_
  rintro e _ ⟨rfl, m16, rfl⟩
  have D16 := Lib.hid (belowN D15.out m16)
  have s16 : Hid (u15.heap.size ≤ (u15.drewN m16).heap.size) := Lib.hid (Nat.le_refl _)
  replace r6 := Lib.hid (r6.out.below (belowN (Below.refl _ _) m16))
  replace r15 := Lib.hid (r15.out.below (belowN (Below.refl _ _) m16))
  replace o5 := Lib.hid (own_kept' o5.out (belowN (Below.refl _ _) m16))
  replace o7 := Lib.hid (own_kept' o7.out (belowN (Below.refl _ _) m16))
  replace o8 := Lib.hid (own_kept' o8.out (belowN (Below.refl _ _) m16))
  replace o9 := Lib.hid (own_kept' o9.out (belowN (Below.refl _ _) m16))
  replace O6 := Lib.hid (O6.out.kept (belowN (Below.refl _ _) m16))
  clear D15
  clear r15
  clear r6
  go_wp2_with fail
  refine (markCoatS_any _ _ 1 _ _ Z0 _ (u15.drewN m16) hz0.out (by omega) (by omega) O6.out).mono ?_
  rintro e u17 ⟨mk, rfl, hmk, A17⟩
  replace o5 := Lib.hid (own_aside o5.out A17 hiv5.out (Or.inl (by omega)))
  replace o7 := Lib.hid (own_aside o7.out A17 hiv7.out (Or.inr (by omega)))
  replace o8 := Lib.hid (own_aside o8.out A17 hiv8.out (Or.inr (by have q7 := s7.out; omega)))
  replace o9 := Lib.hid (own_aside o9.out A17 hiv9.out (Or.inr (by have q7 := s7.out; have q8 := s8.out; omega)))
  have D17 := Lib.hid (D16.out.trans ((A17.below (by have q6 := s6.out; have q7 := s7.out; have q8 := s8.out; have q9 := s9.out; have q10 := s10.out; have q11 := s11.out; have q12 := s12.out; have q13 := s13.out; have q14 := s14.out; have q15 := s15.out; have q16 := s16.out; omega)).mono (by have q1 := s1.out; have q2 := s2.out; have q3 := s3.out; have q4 := s4.out; have q5 := s5.out; omega)))
  have s17 := Lib.hid A17.size
  have hmk1 : 1 ≤ mk ∧ mk ≤ 10000000 := by have := hz0.out; omega
  have hmi1 : ¬ ((mk : Int) < 0) := by omega
  clear D16 A17 O6 hmk
  obtain ⟨mk18, hmk18⟩ : ∃ m : Nat, m = mk + G1.length := ⟨_, rfl⟩
  have cM18 := markInt64S_rowE v7 (mk) _ G1 u17 (by omega) (by omega) (by omega) o7.out
  rw [← hmk18] at cM18
  have hmn18 : 1 ≤ mk18 ∧ mk18 ≤ 12000000 := by omega
  have hmi18 : ¬ ((mk18 : Int) < 0) := by omega
  replace cM18 := Lib.hid cM18
  go_wp2_with fail
  refine cM18.out.mono ?_
  rintro e u18 ⟨rfl, p18, g18⟩
  replace hmk18 := Lib.hid hmk18
  clear cM18
  replace o5 := Lib.hid (o5.out.kept (w' := u18) ⟨g18.os, g18.tape, g18.output, g18.size, g18.block⟩ (apart_lt hiv5.out lov7.out (by have q6 := s6.out; omega)))
  replace o8 := Lib.hid (o8.out.kept (w' := u18) ⟨g18.os, g18.tape, g18.output, g18.size, g18.block⟩ (apart_gt lov8.out hiv7.out (by omega)))
  replace o9 := Lib.hid (o9.out.kept (w' := u18) ⟨g18.os, g18.tape, g18.output, g18.size, g18.block⟩ (apart_gt lov9.out hiv7.out (by have q8 := s8.out; omega)))
  have D18 := Lib.hid (D17.out.grown g18 D17.out.size (fun j hj => Nat.le_trans (by have q1 := s1.out; have q2 := s2.out; have q3 := s3.out; have q4 := s4.out; have q5 := s5.out; have q6 := s6.out; omega) (lov7.out j hj)))
  replace p18 := Lib.hid p18
  have s18 := Lib.hid g18.size
  clear D17 g18 o7
  clear p18
  obtain ⟨mk19, hmk19⟩ : ∃ m : Nat, m = mk18 + G2.length := ⟨_, rfl⟩
  have cM19 := markInt64S_rowE v8 (mk18) _ G2 u18 (by omega) (by omega) (by omega) o8.out
  rw [← hmk19] at cM19
  have hmn19 : 1 ≤ mk19 ∧ mk19 ≤ 14000000 := by omega
  have hmi19 : ¬ ((mk19 : Int) < 0) := by omega
  replace cM19 := Lib.hid cM19
  go_wp2_with fail
  refine cM19.out.mono ?_
  rintro e u19 ⟨rfl, p19, g19⟩
  replace hmk19 := Lib.hid hmk19
  clear cM19
  replace o5 := Lib.hid (o5.out.kept (w' := u19) ⟨g19.os, g19.tape, g19.output, g19.size, g19.block⟩ (apart_lt hiv5.out lov8.out (by have q6 := s6.out; have q7 := s7.out; omega)))
  replace o9 := Lib.hid (o9.out.kept (w' := u19) ⟨g19.os, g19.tape, g19.output, g19.size, g19.block⟩ (apart_gt lov9.out hiv8.out (by omega)))
  have D19 := Lib.hid (D18.out.grown g19 D18.out.size (fun j hj => Nat.le_trans (by have q1 := s1.out; have q2 := s2.out; have q3 := s3.out; have q4 := s4.out; have q5 := s5.out; have q6 := s6.out; have q7 := s7.out; omega) (lov8.out j hj)))
  replace p19 := Lib.hid p19
  have s19 := Lib.hid g19.size
  clear D18 g19 o8
  clear p19
  go_wp2_with fail
  refine (eqInt64S_any v9 v5 LL _ hl20.out (ints_ownE o9.out hin'.out) (ints_ownE o5.out hin'.out)).mono ?_
  rintro e _ ⟨rfl, m20, rfl⟩
  have D20 := Lib.hid (belowN D19.out m20)
  have s20 : Hid (u19.heap.size ≤ (u19.drewN m20).heap.size) := Lib.hid (Nat.le_refl _)
  replace o5 := Lib.hid (own_kept' o5.out (belowN (Below.refl _ _) m20))
  replace o9 := Lib.hid (own_kept' o9.out (belowN (Below.refl _ _) m20))
  clear D19
  obtain ⟨mk21, hmk21⟩ : ∃ m : Nat, m = 1 + LL.length := ⟨_, rfl⟩
  have cM21 := markInt64S_rowE v9 (1) _ LL (u19.drewN m20) hl20.out (by omega) (by omega) o9.out
  rw [← hmk21] at cM21
  have hmn21 : 1 ≤ mk21 ∧ mk21 ≤ 16000000 := by omega
  have hmi21 : ¬ ((mk21 : Int) < 0) := by omega
  replace cM21 := Lib.hid cM21
  go_wp2_with fail
  refine cM21.out.mono ?_
  rintro e u21 ⟨rfl, p21, g21⟩
  replace hmk21 := Lib.hid hmk21
  clear cM21
  replace o5 := Lib.hid (o5.out.kept (w' := u21) ⟨g21.os, g21.tape, g21.output, g21.size, g21.block⟩ (apart_lt hiv5.out lov9.out (by have q6 := s6.out; have q7 := s7.out; have q8 := s8.out; omega)))
  have D21 := Lib.hid (D20.out.grown g21 D20.out.size (fun j hj => Nat.le_trans (by have q1 := s1.out; have q2 := s2.out; have q3 := s3.out; have q4 := s4.out; have q5 := s5.out; have q6 := s6.out; have q7 := s7.out; have q8 := s8.out; omega) (lov9.out j hj)))
  replace p21 := Lib.hid p21
  have s21 := Lib.hid g21.size
  clear D20 g21 o9
  go_wp2_with fail
  have cH22 := heldInt64S_rowE v9 LL.length 1 _ u21 hl20.out (by omega) (by omega) p21.out
  rw [← hmk21.out] at cH22
  refine cH22.mono ?_
  rintro e _ ⟨rfl, m22, rfl⟩
  clear cH22
  have D22 := Lib.hid (belowN D21.out m22)
  have s22 : Hid (u21.heap.size ≤ (u21.drewN m22).heap.size) := Lib.hid (Nat.le_refl _)
  replace o5 := Lib.hid (own_kept' o5.out (belowN (Below.refl _ _) m22))
  replace p21 := Lib.hid (own_kept' p21.out (belowN (Below.refl _ _) m22))
  clear D21
  go_wp2_with fail
  refine (toCoatS_new a0 Z0 _ hz0.out (hZ0'.out.below D22.out)).mono ?_
  rintro e u23 ⟨us23, rfl, O23, r23, d23⟩
  have D23 := Lib.hid (D22.out.trans (d23.mono D22.out.size))
  have s23 := Lib.hid (d23.size)
  replace o5 := Lib.hid (own_kept' o5.out d23)
  replace p21 := Lib.hid (own_kept' p21.out d23)
  clear D22
  clear d23
  replace r23 := Lib.hid r23
  clear O23
  go_wp2_with fail
  refine (toInt64S_any _ G1 _ hg1 (hG1'.out.below D23.out)).mono ?_
  rintro e u24 ⟨v24, rfl, o24, d24⟩
  have D24 := Lib.hid (D23.out.trans (d24.mono D23.out.size))
  have s24 := Lib.hid (d24.size)
  replace r23 := Lib.hid (r23.out.below d24)
  replace o5 := Lib.hid (own_kept' o5.out d24)
  replace p21 := Lib.hid (own_kept' p21.out d24)
  clear D23
  clear d24
  have r24 := Lib.hid (ints_ownE o24 hzz1.out)
  clear o24
  go_wp2_with fail
  refine (toInt64S_any _ G2 _ hg2 (hG2'.out.below D24.out)).mono ?_
  rintro e u25 ⟨v25, rfl, o25, d25⟩
  have D25 := Lib.hid (D24.out.trans (d25.mono D24.out.size))
  have s25 := Lib.hid (d25.size)
  replace r23 := Lib.hid (r23.out.below d25)
  replace r24 := Lib.hid (r24.out.below d25)
  replace o5 := Lib.hid (own_kept' o5.out d25)
  replace p21 := Lib.hid (own_kept' p21.out d25)
  clear D24
  clear d25
  have r25 := Lib.hid (ints_ownE o25 hzz2.out)
  clear o25
  go_wp2_with fail
  refine (ci'.out _ _ _ _ r23.out r24.out r25.out).mono ?_
  rintro e u26 ⟨v26, rfl, o26, d26⟩
  have D26 := Lib.hid (D25.out.trans (d26.mono D25.out.size))
  have s26 := Lib.hid (d26.size)
  replace r23 := Lib.hid (r23.out.below d26)
  replace r24 := Lib.hid (r24.out.below d26)
  replace r25 := Lib.hid (r25.out.below d26)
  replace o5 := Lib.hid (own_kept' o5.out d26)
  replace p21 := Lib.hid (own_kept' p21.out d26)
  clear D25
  clear d26
  have lov26 := Lib.hid (fun k hk => (o26.lt k hk).1)
  have hiv26 := Lib.hid (fun k hk => (o26.lt k hk).2)
  replace o26 := Lib.hid o26
  clear r23
  clear r24
  clear r25
  go_wp2_with fail
  refine (eqInt64S_any v26 v5 LL _ hl20.out (ints_ownE o26.out hin'.out) (ints_ownE o5.out hin'.out)).mono ?_
  rintro e _ ⟨rfl, m27, rfl⟩
  have D27 := Lib.hid (belowN D26.out m27)
  have s27 : Hid (u26.heap.size ≤ (u26.drewN m27).heap.size) := Lib.hid (Nat.le_refl _)
  replace o5 := Lib.hid (own_kept' o5.out (belowN (Below.refl _ _) m27))
  replace p21 := Lib.hid (own_kept' p21.out (belowN (Below.refl _ _) m27))
  replace o26 := Lib.hid (own_kept' o26.out (belowN (Below.refl _ _) m27))
  clear D26
  go_wp2_with fail
  have cH28 := heldInt64S_rowE v9 LL.length 1 _ (u26.drewN m27) hl20.out (by omega) (by omega) p21.out
  rw [← hmk21.out] at cH28
  refine cH28.mono ?_
  rintro e _ ⟨rfl, m28, rfl⟩
  clear cH28
  have D28 := Lib.hid (belowN D27.out m28)
  have s28 : Hid ((u26.drewN m27).heap.size ≤ ((u26.drewN m27).drewN m28).heap.size) := Lib.hid (Nat.le_refl _)
  replace o5 := Lib.hid (own_kept' o5.out (belowN (Below.refl _ _) m28))
  replace p21 := Lib.hid (own_kept' p21.out (belowN (Below.refl _ _) m28))
  replace o26 := Lib.hid (own_kept' o26.out (belowN (Below.refl _ _) m28))
  clear D27
  go_wp2
  go_ret
  exact ⟨rfl, by have := D28.out; simpa only [World.drewN_drewN] using this⟩


/-! ### THE ROW's STEP: WRITTEN OUT: LEAVE IT -/
set_option maxRecDepth 100000 in
theorem lifted (os : Os) (started : os.Started) (H : Type) (enc : TypeId × Value → H) :
    ReturnsInHanded {} Try.checked os 5 .any (Rows.fnExactColourAfterSpec.pre6 enc Try.prog Try.f5 Rows.fnExactColourAfterRow.domain false) (Rows.fnExactColourAfterSpec.post enc Try.prog Try.f5 false true false false) := by
  refine returnsInHanded_of_change (C := Try.checked) own started (by kernel_rfl) Try.func5
    (ChangeSpec.witness6 (enc := enc) (C := Try.checked) false ⟨#[], #[.slice none 0 0, .slice none 0 0, .slice none 0 0], []⟩ 8 (by kernel_rfl) (by kernel_rfl) (by kernel_rfl) (by kernel_rfl)) ?_
  intro W base args ds gs before hval0 hW hcnd _
  have hval : ∀ (j : Nat) t v, Try.f5.params[j]? = some t → args[j]? = some v → Value.okWide Try.prog W .any base t v := hval0
  have hW' := hW
  obtain ⟨p, q, hA0, hV, rfl, hfz, hnd⟩ := hW
  have hA : DataW.TrodAll enc Try.prog W 0 (fun _ => true) true Try.f5.params.toList args.toList ds p := hA0
  rw [Try.params5] at hA hval
  obtain ⟨v0, vs0, d0, ds0, p0, q0, hargs, rfl, rfl, h0, r0⟩ := trodAll_cons hA
  obtain ⟨v1, vs1, d1, ds1, p1, q1, rfl, rfl, rfl, h1, r1⟩ := trodAll_cons r0
  obtain ⟨v2, vs2, d2, ds2, p2, q2, rfl, rfl, rfl, h2, r2⟩ := trodAll_cons r1
  obtain ⟨rfl, rfl, rfl⟩ := trodAll_nil r2
  obtain rfl : args = #[v0, v1, v2] := by cases args; simp_all
  obtain ⟨rfl, rfl⟩ := trodVars_none hV
  have k0 := h0
  have lt0 : ∀ x ∈ p0, x.block < W.heap.size := by obtain ⟨m, hm⟩ := k0; exact DataW.trod_lt m _ _ _ hm
  have w0 : CtsV W v0 := cts_open (hval 0 22 v0 rfl rfl) h0
  obtain ⟨a1, len1, cap1, rfl⟩ := okWide_slice Try.underlying29 (hval 1 29 v1 rfl rfl)
  have k1 := h1
  have lt1 : ∀ x ∈ p1, x.block < W.heap.size := by obtain ⟨m, hm⟩ := k1; exact DataW.trod_lt m _ _ _ hm
  obtain ⟨z1, w1⟩ : ∃ zs, IsRow .i64 W a1 len1 cap1 zs := by
    obtain ⟨fuel, hf⟩ := h1
    rcases open_ints Try.underlying29 Try.underlying2 (by kernel_rfl) hf with ⟨hcs, _⟩ | ⟨x, l, c, zs, hcs, _, hl, hm, hz, _, hcell, hwz⟩
    · simp [Value.cells] at hcs
      obtain ⟨rfl, rfl, rfl⟩ := hcs
      exact ⟨[], .inl ⟨rfl, rfl, rfl, rfl⟩⟩
    · simp [Value.cells] at hcs
      obtain ⟨rfl, rfl, rfl⟩ := hcs
      exact ⟨zs, .inr ⟨_, rfl, hl, hm, by simpa using hz, hcell, hwz⟩⟩
  obtain ⟨a2, len2, cap2, rfl⟩ := okWide_slice Try.underlying29 (hval 2 29 v2 rfl rfl)
  have k2 := h2
  have lt2 : ∀ x ∈ p2, x.block < W.heap.size := by obtain ⟨m, hm⟩ := k2; exact DataW.trod_lt m _ _ _ hm
  obtain ⟨z2, w2⟩ : ∃ zs, IsRow .i64 W a2 len2 cap2 zs := by
    obtain ⟨fuel, hf⟩ := h2
    rcases open_ints Try.underlying29 Try.underlying2 (by kernel_rfl) hf with ⟨hcs, _⟩ | ⟨x, l, c, zs, hcs, _, hl, hm, hz, _, hcell, hwz⟩
    · simp [Value.cells] at hcs
      obtain ⟨rfl, rfl, rfl⟩ := hcs
      exact ⟨[], .inl ⟨rfl, rfl, rfl, rfl⟩⟩
    · simp [Value.cells] at hcs
      obtain ⟨rfl, rfl, rfl⟩ := hcs
      exact ⟨zs, .inr ⟨_, rfl, hl, hm, by simpa using hz, hcell, hwz⟩⟩
  clear hA0 hval0
  refine (walk v0 a1 len1 cap1 z1 a2 len2 cap2 z2 W w0 w1 w2).mono fun e W' ⟨he, bel⟩ => ?_
  subst he
  exact ⟨_, rfl, _, _, _, [], _, [], hW', trodAll_mk1 (shut_bool Try.underlying4 _), (trodAll_cons_mk (Below.trod laidOut (by kernel_rfl) (of_decide_eq_true (by kernel_rfl)) k0 bel lt0) (trodAll_cons_mk (Below.trod laidOut (by kernel_rfl) (of_decide_eq_true (by kernel_rfl)) k1 bel lt1) (trodAll_cons_mk (Below.trod laidOut (by kernel_rfl) (of_decide_eq_true (by kernel_rfl)) k2 bel lt2) trodAll_mk0))), rfl, bel.frame _, fun h => by cases h⟩

theorem over : Rows.fnExactColourAfterRow.holds Try.pinned (OpenSpec.ofChange Rows.fnExactColourAfterSpec) :=
  OpenClaim.holds_of_wide 5 Try.f5 rfl rfl rfl rfl rfl rfl rfl ⟨rfl, rfl, rfl, rfl, rfl⟩ rfl rfl rfl rfl rfl (by kernel_rfl) Try.func5 (by kernel_rfl)
    (of_decide_eq_true (by kernel_rfl)) (by unfold Func.isWrapper; first | (rw [if_pos (by decide +kernel)]; kernel_rfl) | (rw [if_neg (by decide +kernel)]; exact ⟨rfl, rfl⟩))
    (fun os started H enc _ => lifted os started H enc)

/-- ████ THE STATEMENT ████ -/
theorem proved : Rows.FnExactColourAfterSaid := over
#print axioms proved
end Go.Proofs.Ytjnpladpegmiiaa.fnExactColourAfter
