/-
  The law FnExactMixColours holds for every input: the function answers as its model; conditions: none beside the row's own.
-/
import Derived.Test.YtjnpladpegmiiaaMxs
import Derived.Test.YtjnpladpegmiiaaMxi
import Derived.Test.YtjnpladpegmiiaaCtsW
import Derived.Test.YtjnpladpegmiiaaCtsM
import Derived.Test.YtjnpladpegmiiaaRowE
import Derived.Lib.Hide
import Derived.Test.YtjnpladpegmiiaaRows
import Derived.WalkKit
import Derived.ProofKit
import Derived.OpenShut
import Derived.ShutString
import Derived.ChangeOld
import Derived.Below
namespace Go.Proofs.Ytjnpladpegmiiaa.fnExactMixColours
open Go.ChangeShapes Go.WideShapes Go.ChangeAt Go.RowKit
open Go.ChangeMaps (open_string shut_string)
set_option linter.unusedVariables false

theorem own : ownKnob Try.prog.godebug = none := by kernel_rfl
theorem laidOut : laidOutB Try.prog = true := by kernel_rfl

/-- WHAT THE WALK IS TOLD OF A SLICE OF INTEGERS THAT CAME IN: it is nil; or it leads to a row of 'cap' cells, the numbers 'zs' (the first 'len' are its elements, the rest its spare room), each fitting its kind. -/
def IsRow (k : IntKind) (w : World) (a : Option Addr) (len cap : Nat) (zs : List Int) : Prop :=
  (a = none ∧ len = 0 ∧ cap = 0 ∧ zs = []) ∨
  ∃ x, a = some x ∧ len ≤ cap ∧ cap ≤ maxLen ∧ zs.length = cap ∧ (∀ i, i < zs.length → w.cell? (x.add i) = some (.int k (zs.getD i 0))) ∧ ∀ n ∈ zs, (Lit.int k n).wf = true

/-! ### STEP 1: THE WALK: the Go text returns true, AND WRITES NOTHING THAT WAS THERE: 'Below w.heap.size w w'' (Derived/Below.lean: '.refl', '.alloc', '.drew', '.setCell' at a new block, '.trans'). Open each 'IsRow' by 'rcases' AHEAD of 'go_enter'; part every test ahead of the walk. -/
set_option maxHeartbeats 3200000 in
set_option maxRecDepth 1000000 in
theorem walk (a0 : Value) (a1 : Option Addr) (len1 cap1 : Nat) (z1 : List Int) (w : World) (w0 : CtsV w a0) (w1 : IsRow .i64 w a1 len1 cap1 z1) :
    Calls Try.prog 8 #[a0, .slice a1 len1 cap1] w fun e w' => e = .returned (.bool true) ∧ Below w.heap.size w w' := by
  obtain ⟨Z0, hZ0, hZl0⟩ := w0
  have hZ0' := Lib.hid hZ0
  clear hZ0
  obtain ⟨G1, hG1, hl1⟩ := ints_in w1
  have hG1' := Lib.hid hG1
  have hzz1 : Hid (∀ n ∈ G1, inI n) := Lib.hid (by obtain ⟨_, _, _, _, h, _⟩ := hG1; exact h)
  clear hG1 w1
  by_cases hL1 : len1 ≤ 1048576
  rotate_left
  · go_enter Try.func8, Try.ntmps8
    go_wp2
    go_ret
    exact ⟨rfl, Below.refl _ _⟩
  have hg1 : G1.length ≤ 1048576 := by omega
  go_enter Try.func8, Try.ntmps8
  go_wp2_with fail
  refine (szCoatS_any a0 Z0 _ hZl0 hZ0'.out).mono ?_
  rintro e u1 ⟨n, rfl, hn0, hn1, hn2, d1⟩
  by_cases hneg : n < 0
  · go_wp2
    go_ret
    exact ⟨rfl, d1⟩
  have D1 := Lib.hid d1
  have s1 := Lib.hid (d1.size)
  clear d1
  obtain ⟨hzl, hids⟩ := hn2 (by omega)
  have hz0 := Lib.hid hzl
  have hzn0 : Z0.length ≤ 1048576 := by omega
  clear hn2 hids hzl hZl0
  have cs := fun V0 V1 W (h0 : CtsAt W V0 Z0) (h1 : IntsAt W V1 G1) => specMixColours_any V0 Z0 V1 G1 W hzn0 h0 hg1 h1
  have ci := fun V0 V1 W (h0 : CtsAt W V0 Z0) (h1 : IntsAt W V1 G1) => implMixColours_any V0 Z0 V1 G1 W hzn0 h0 hg1 h1
  obtain ⟨hin, hl20⟩ := mix_in Z0 G1
  obtain ⟨LL, hLL⟩ : ∃ LL, LL = mixV Z0 G1 := ⟨_, rfl⟩
  rw [← hLL] at cs ci hin hl20
  obtain ⟨cc, hcc⟩ : ∃ cc, cc = mixC Z0 G1 := ⟨_, rfl⟩
  rw [← hcc] at cs ci
  clear hcc hLL
  have hin' := Lib.hid hin
  have hl20' : LL.length ≤ 1048576 := by omega
  have hl20 : Hid (LL.length ≤ 1048577) := Lib.hid (by omega)
  clear hin
  have cs' := Lib.hid cs
  have ci' := Lib.hid ci
  clear cs ci
  go_wp2_with fail
  refine (toCoatS_new a0 Z0 _ hz0.out (hZ0'.out.below D1.out)).mono ?_
  rintro e u2 ⟨us2, rfl, O2, r2, d2⟩
  have D2 := Lib.hid (D1.out.trans (d2.mono D1.out.size))
  have s2 := Lib.hid (d2.size)
  clear D1
  clear d2
  replace r2 := Lib.hid r2
  clear O2
  go_wp2_with fail
  refine (toInt64S_any _ G1 _ hg1 (hG1'.out.below D2.out)).mono ?_
  rintro e u3 ⟨v3, rfl, o3, d3⟩
  have D3 := Lib.hid (D2.out.trans (d3.mono D2.out.size))
  have s3 := Lib.hid (d3.size)
  replace r2 := Lib.hid (r2.out.below d3)
  clear D2
  clear d3
  have r3 := Lib.hid (ints_ownE o3 hzz1.out)
  clear o3
  go_wp2_with fail
  refine (cs'.out _ _ _ r2.out r3.out).mono ?_
  rintro e u4 ⟨v4, rfl, o4, d4⟩
  have D4 := Lib.hid (D3.out.trans (d4.mono D3.out.size))
  have s4 := Lib.hid (d4.size)
  replace r2 := Lib.hid (r2.out.below d4)
  replace r3 := Lib.hid (r3.out.below d4)
  clear D3
  clear d4
  have lov4 := Lib.hid (fun k hk => (o4.lt k hk).1)
  have hiv4 := Lib.hid (fun k hk => (o4.lt k hk).2)
  replace o4 := Lib.hid o4
  clear r2
  clear r3
  go_wp2_with fail
  refine (toCoatS_new a0 Z0 _ hz0.out (hZ0'.out.below D4.out)).mono ?_
  rintro e u5 ⟨us5, rfl, O5, r5, d5⟩
  have D5 := Lib.hid (D4.out.trans (d5.mono D4.out.size))
  have s5 := Lib.hid (d5.size)
  replace o4 := Lib.hid (own_kept' o4.out d5)
  clear D4
  clear d5
  replace r5 := Lib.hid r5
  replace O5 := Lib.hid O5
  go_wp2_with fail
  refine (toInt64S_any _ G1 _ hg1 (hG1'.out.below D5.out)).mono ?_
  rintro e u6 ⟨v6, rfl, o6, d6⟩
  have D6 := Lib.hid (D5.out.trans (d6.mono D5.out.size))
  have s6 := Lib.hid (d6.size)
  replace r5 := Lib.hid (r5.out.below d6)
  replace o4 := Lib.hid (own_kept' o4.out d6)
  replace O5 := Lib.hid (O5.out.kept d6)
  clear D5
  clear d6
  have lov6 := Lib.hid (fun k hk => (o6.lt k hk).1)
  have hiv6 := Lib.hid (fun k hk => (o6.lt k hk).2)
  replace o6 := Lib.hid o6
  go_wp2_with fail
  refine (ci'.out _ _ _ r5.out (ints_ownE o6.out hzz1.out)).mono ?_
  rintro e u7 ⟨v7, rfl, o7, d7⟩
  have D7 := Lib.hid (D6.out.trans (d7.mono D6.out.size))
  have s7 := Lib.hid (d7.size)
  replace r5 := Lib.hid (r5.out.below d7)
  replace o4 := Lib.hid (own_kept' o4.out d7)
  replace o6 := Lib.hid (own_kept' o6.out d7)
  replace O5 := Lib.hid (O5.out.kept d7)
  clear D6
  clear d7
  have lov7 := Lib.hid (fun k hk => (o7.lt k hk).1)
  have hiv7 := Lib.hid (fun k hk => (o7.lt k hk).2)
  replace o7 := Lib.hid o7
  go_wp2_with fail
  refine (eqInt64S_any v7 v4 LL _ hl20.out (ints_ownE o7.out hin'.out) (ints_ownE o4.out hin'.out)).mono ?_
  rintro e _ ⟨rfl, m8, rfl⟩
  have D8 := Lib.hid (belowN D7.out m8)
  have s8 : Hid (u7.heap.size ≤ (u7.drewN m8).heap.size) := Lib.hid (Nat.le_refl _)
  replace r5 := Lib.hid (r5.out.below (belowN (Below.refl _ _) m8))
  replace o4 := Lib.hid (own_kept' o4.out (belowN (Below.refl _ _) m8))
  replace o6 := Lib.hid (own_kept' o6.out (belowN (Below.refl _ _) m8))
  replace o7 := Lib.hid (own_kept' o7.out (belowN (Below.refl _ _) m8))
  replace O5 := Lib.hid (O5.out.kept (belowN (Below.refl _ _) m8))
  clear D7
  go_wp2_with fail
  refine (toCoatS_new a0 Z0 _ hz0.out (hZ0'.out.below D8.out)).mono ?_
  rintro e u9 ⟨us9, rfl, O9, r9, d9⟩
  have D9 := Lib.hid (D8.out.trans (d9.mono D8.out.size))
  have s9 := Lib.hid (d9.size)
  replace r5 := Lib.hid (r5.out.below d9)
  replace o4 := Lib.hid (own_kept' o4.out d9)
  replace o6 := Lib.hid (own_kept' o6.out d9)
  replace o7 := Lib.hid (own_kept' o7.out d9)
  replace O5 := Lib.hid (O5.out.kept d9)
  clear D8
  clear d9
  replace r9 := Lib.hid r9
  clear O9
  go_wp2_with fail
  refine (eqCoatS_any _ _ Z0 _ hz0.out r5.out r9.out).mono ?_
  rintro e u10 ⟨rfl, d10⟩
  have D10 := Lib.hid (D9.out.trans (d10.mono D9.out.size))
  have s10 := Lib.hid (d10.size)
  replace r5 := Lib.hid (r5.out.below d10)
  replace r9 := Lib.hid (r9.out.below d10)
  replace o4 := Lib.hid (own_kept' o4.out d10)
  replace o6 := Lib.hid (own_kept' o6.out d10)
  replace o7 := Lib.hid (own_kept' o7.out d10)
  replace O5 := Lib.hid (O5.out.kept d10)
  clear D9
  clear d10
  clear r9
  go_wp2_with fail
  refine (toInt64S_any _ G1 _ hg1 (hG1'.out.below D10.out)).mono ?_
  rintro e u11 ⟨v11, rfl, o11, d11⟩
  have D11 := Lib.hid (D10.out.trans (d11.mono D10.out.size))
  have s11 := Lib.hid (d11.size)
  replace r5 := Lib.hid (r5.out.below d11)
  replace o4 := Lib.hid (own_kept' o4.out d11)
  replace o6 := Lib.hid (own_kept' o6.out d11)
  replace o7 := Lib.hid (own_kept' o7.out d11)
  replace O5 := Lib.hid (O5.out.kept d11)
  clear D10
  clear d11
  have r11 := Lib.hid (ints_ownE o11 hzz1.out)
  clear o11
  go_wp2_with fail
  refine (eqInt64S_any _ _ G1 _ (by omega) (ints_ownE o6.out hzz1.out) r11.out).mono ?_
  rintro e _ ⟨rfl, m12, rfl⟩
  have D12 := Lib.hid (belowN D11.out m12)
  have s12 : Hid (u11.heap.size ≤ (u11.drewN m12).heap.size) := Lib.hid (Nat.le_refl _)
  replace r5 := Lib.hid (r5.out.below (belowN (Below.refl _ _) m12))
  replace r11 := Lib.hid (r11.out.below (belowN (Below.refl _ _) m12))
  replace o4 := Lib.hid (own_kept' o4.out (belowN (Below.refl _ _) m12))
  replace o6 := Lib.hid (own_kept' o6.out (belowN (Below.refl _ _) m12))
  replace o7 := Lib.hid (own_kept' o7.out (belowN (Below.refl _ _) m12))
  replace O5 := Lib.hid (O5.out.kept (belowN (Below.refl _ _) m12))
  clear D11
  clear r11
  clear r5
  go_wp2_with fail
  refine (markCoatS_any _ _ 1 _ _ Z0 _ (u11.drewN m12) hz0.out (by omega) (by omega) O5.out).mono ?_
  rintro e u13 ⟨mk, rfl, hmk, A13⟩
  replace o4 := Lib.hid (own_aside o4.out A13 hiv4.out (Or.inl (by omega)))
  replace o6 := Lib.hid (own_aside o6.out A13 hiv6.out (Or.inr (by omega)))
  replace o7 := Lib.hid (own_aside o7.out A13 hiv7.out (Or.inr (by have q6 := s6.out; omega)))
  have D13 := Lib.hid (D12.out.trans ((A13.below (by have q5 := s5.out; have q6 := s6.out; have q7 := s7.out; have q8 := s8.out; have q9 := s9.out; have q10 := s10.out; have q11 := s11.out; have q12 := s12.out; omega)).mono (by have q1 := s1.out; have q2 := s2.out; have q3 := s3.out; have q4 := s4.out; omega)))
  have s13 := Lib.hid A13.size
  have hmk1 : 1 ≤ mk ∧ mk ≤ 10000000 := by have := hz0.out; omega
  have hmi1 : ¬ ((mk : Int) < 0) := by omega
  clear D12 A13 O5 hmk
  obtain ⟨mk14, hmk14⟩ : ∃ m : Nat, m = mk + G1.length := ⟨_, rfl⟩
  have cM14 := markInt64S_rowE v6 (mk) _ G1 u13 (by omega) (by omega) (by omega) o6.out
  rw [← hmk14] at cM14
  have hmn14 : 1 ≤ mk14 ∧ mk14 ≤ 12000000 := by omega
  have hmi14 : ¬ ((mk14 : Int) < 0) := by omega
  replace cM14 := Lib.hid cM14
  go_wp2_with fail
  refine cM14.out.mono ?_
  rintro e u14 ⟨rfl, p14, g14⟩
  replace hmk14 := Lib.hid hmk14
  clear cM14
  replace o4 := Lib.hid (o4.out.kept (w' := u14) ⟨g14.os, g14.tape, g14.output, g14.size, g14.block⟩ (apart_lt hiv4.out lov6.out (by have q5 := s5.out; omega)))
  replace o7 := Lib.hid (o7.out.kept (w' := u14) ⟨g14.os, g14.tape, g14.output, g14.size, g14.block⟩ (apart_gt lov7.out hiv6.out (by omega)))
  have D14 := Lib.hid (D13.out.grown g14 D13.out.size (fun j hj => Nat.le_trans (by have q1 := s1.out; have q2 := s2.out; have q3 := s3.out; have q4 := s4.out; have q5 := s5.out; omega) (lov6.out j hj)))
  replace p14 := Lib.hid p14
  have s14 := Lib.hid g14.size
  clear D13 g14 o6
  clear p14
  go_wp2_with fail
  refine (eqInt64S_any v7 v4 LL _ hl20.out (ints_ownE o7.out hin'.out) (ints_ownE o4.out hin'.out)).mono ?_
  rintro e _ ⟨rfl, m15, rfl⟩
  have D15 := Lib.hid (belowN D14.out m15)
  have s15 : Hid (u14.heap.size ≤ (u14.drewN m15).heap.size) := Lib.hid (Nat.le_refl _)
  replace o4 := Lib.hid (own_kept' o4.out (belowN (Below.refl _ _) m15))
  replace o7 := Lib.hid (own_kept' o7.out (belowN (Below.refl _ _) m15))
  clear D14
  obtain ⟨mk16, hmk16⟩ : ∃ m : Nat, m = 1 + LL.length := ⟨_, rfl⟩
  have cM16 := markInt64S_rowE v7 (1) _ LL (u14.drewN m15) hl20.out (by omega) (by omega) o7.out
  rw [← hmk16] at cM16
  have hmn16 : 1 ≤ mk16 ∧ mk16 ≤ 14000000 := by omega
  have hmi16 : ¬ ((mk16 : Int) < 0) := by omega
  replace cM16 := Lib.hid cM16
  go_wp2_with fail
  refine cM16.out.mono ?_
  rintro e u16 ⟨rfl, p16, g16⟩
  replace hmk16 := Lib.hid hmk16
  clear cM16
  replace o4 := Lib.hid (o4.out.kept (w' := u16) ⟨g16.os, g16.tape, g16.output, g16.size, g16.block⟩ (apart_lt hiv4.out lov7.out (by have q5 := s5.out; have q6 := s6.out; omega)))
  have D16 := Lib.hid (D15.out.grown g16 D15.out.size (fun j hj => Nat.le_trans (by have q1 := s1.out; have q2 := s2.out; have q3 := s3.out; have q4 := s4.out; have q5 := s5.out; have q6 := s6.out; omega) (lov7.out j hj)))
  replace p16 := Lib.hid p16
  have s16 := Lib.hid g16.size
  clear D15 g16 o7
  go_wp2_with fail
  have cH17 := heldInt64S_rowE v7 LL.length 1 _ u16 hl20.out (by omega) (by omega) p16.out
  rw [← hmk16.out] at cH17
  refine cH17.mono ?_
  rintro e _ ⟨rfl, m17, rfl⟩
  clear cH17
  have D17 := Lib.hid (belowN D16.out m17)
  have s17 : Hid (u16.heap.size ≤ (u16.drewN m17).heap.size) := Lib.hid (Nat.le_refl _)
  replace o4 := Lib.hid (own_kept' o4.out (belowN (Below.refl _ _) m17))
  replace p16 := Lib.hid (own_kept' p16.out (belowN (Below.refl _ _) m17))
  clear D16
  go_wp2_with fail
  refine (toCoatS_new a0 Z0 _ hz0.out (hZ0'.out.below D17.out)).mono ?_
  rintro e u18 ⟨us18, rfl, O18, r18, d18⟩
  have D18 := Lib.hid (D17.out.trans (d18.mono D17.out.size))
  have s18 := Lib.hid (d18.size)
  replace o4 := Lib.hid (own_kept' o4.out d18)
  replace p16 := Lib.hid (own_kept' p16.out d18)
  clear D17
  clear d18
  replace r18 := Lib.hid r18
  clear O18
  go_wp2_with fail
  refine (toInt64S_any _ G1 _ hg1 (hG1'.out.below D18.out)).mono ?_
  rintro e u19 ⟨v19, rfl, o19, d19⟩
  have D19 := Lib.hid (D18.out.trans (d19.mono D18.out.size))
  have s19 := Lib.hid (d19.size)
  replace r18 := Lib.hid (r18.out.below d19)
  replace o4 := Lib.hid (own_kept' o4.out d19)
  replace p16 := Lib.hid (own_kept' p16.out d19)
  clear D18
  clear d19
  have r19 := Lib.hid (ints_ownE o19 hzz1.out)
  clear o19
  go_wp2_with fail
  refine (ci'.out _ _ _ r18.out r19.out).mono ?_
  rintro e u20 ⟨v20, rfl, o20, d20⟩
  have D20 := Lib.hid (D19.out.trans (d20.mono D19.out.size))
  have s20 := Lib.hid (d20.size)
  replace r18 := Lib.hid (r18.out.below d20)
  replace r19 := Lib.hid (r19.out.below d20)
  replace o4 := Lib.hid (own_kept' o4.out d20)
  replace p16 := Lib.hid (own_kept' p16.out d20)
  clear D19
  clear d20
  have lov20 := Lib.hid (fun k hk => (o20.lt k hk).1)
  have hiv20 := Lib.hid (fun k hk => (o20.lt k hk).2)
  replace o20 := Lib.hid o20
  clear r18
  clear r19
  go_wp2_with fail
  refine (eqInt64S_any v20 v4 LL _ hl20.out (ints_ownE o20.out hin'.out) (ints_ownE o4.out hin'.out)).mono ?_
  rintro e _ ⟨rfl, m21, rfl⟩
  have D21 := Lib.hid (belowN D20.out m21)
  have s21 : Hid (u20.heap.size ≤ (u20.drewN m21).heap.size) := Lib.hid (Nat.le_refl _)
  replace o4 := Lib.hid (own_kept' o4.out (belowN (Below.refl _ _) m21))
  replace p16 := Lib.hid (own_kept' p16.out (belowN (Below.refl _ _) m21))
  replace o20 := Lib.hid (own_kept' o20.out (belowN (Below.refl _ _) m21))
  clear D20
  go_wp2_with fail
  have cH22 := heldInt64S_rowE v7 LL.length 1 _ (u20.drewN m21) hl20.out (by omega) (by omega) p16.out
  rw [← hmk16.out] at cH22
  refine cH22.mono ?_
  rintro e _ ⟨rfl, m22, rfl⟩
  clear cH22
  have D22 := Lib.hid (belowN D21.out m22)
  have s22 : Hid ((u20.drewN m21).heap.size ≤ ((u20.drewN m21).drewN m22).heap.size) := Lib.hid (Nat.le_refl _)
  replace o4 := Lib.hid (own_kept' o4.out (belowN (Below.refl _ _) m22))
  replace p16 := Lib.hid (own_kept' p16.out (belowN (Below.refl _ _) m22))
  replace o20 := Lib.hid (own_kept' o20.out (belowN (Below.refl _ _) m22))
  clear D21
  go_wp2
  go_ret
  exact ⟨rfl, by have := D22.out; simpa only [World.drewN_drewN] using this⟩


/-! ### THE ROW's STEP: WRITTEN OUT: LEAVE IT -/
set_option maxRecDepth 100000 in
theorem lifted (os : Os) (started : os.Started) (H : Type) (enc : TypeId × Value → H) :
    ReturnsInHanded {} Try.checked os 8 .any (Rows.fnExactMixColoursSpec.pre6 enc Try.prog Try.f8 Rows.fnExactMixColoursRow.domain false) (Rows.fnExactMixColoursSpec.post enc Try.prog Try.f8 false true false false) := by
  refine returnsInHanded_of_change (C := Try.checked) own started (by kernel_rfl) Try.func8
    (ChangeSpec.witness6 (enc := enc) (C := Try.checked) false ⟨#[], #[.slice none 0 0, .slice none 0 0], []⟩ 8 (by kernel_rfl) (by kernel_rfl) (by kernel_rfl) (by kernel_rfl)) ?_
  intro W base args ds gs before hval0 hW hcnd _
  have hval : ∀ (j : Nat) t v, Try.f8.params[j]? = some t → args[j]? = some v → Value.okWide Try.prog W .any base t v := hval0
  have hW' := hW
  obtain ⟨p, q, hA0, hV, rfl, hfz, hnd⟩ := hW
  have hA : DataW.TrodAll enc Try.prog W 0 (fun _ => true) true Try.f8.params.toList args.toList ds p := hA0
  rw [Try.params8] at hA hval
  obtain ⟨v0, vs0, d0, ds0, p0, q0, hargs, rfl, rfl, h0, r0⟩ := trodAll_cons hA
  obtain ⟨v1, vs1, d1, ds1, p1, q1, rfl, rfl, rfl, h1, r1⟩ := trodAll_cons r0
  obtain ⟨rfl, rfl, rfl⟩ := trodAll_nil r1
  obtain rfl : args = #[v0, v1] := by cases args; simp_all
  obtain ⟨rfl, rfl⟩ := trodVars_none hV
  have k0 := h0
  have lt0 : ∀ x ∈ p0, x.block < W.heap.size := by obtain ⟨m, hm⟩ := k0; exact DataW.trod_lt m _ _ _ hm
  have w0 : CtsV W v0 := cts_open (hval 0 22 v0 rfl rfl) h0
  obtain ⟨a1, len1, cap1, rfl⟩ := okWide_slice Try.underlying29 (hval 1 29 v1 rfl rfl)
  have k1 := h1
  have lt1 : ∀ x ∈ p1, x.block < W.heap.size := by obtain ⟨m, hm⟩ := k1; exact DataW.trod_lt m _ _ _ hm
  obtain ⟨z1, w1⟩ : ∃ zs, IsRow .i64 W a1 len1 cap1 zs := by
    obtain ⟨fuel, hf⟩ := h1
    rcases open_ints Try.underlying29 Try.underlying2 (by kernel_rfl) hf with ⟨hcs, _⟩ | ⟨x, l, c, zs, hcs, _, hl, hm, hz, _, hcell, hwz⟩
    · simp [Value.cells] at hcs
      obtain ⟨rfl, rfl, rfl⟩ := hcs
      exact ⟨[], .inl ⟨rfl, rfl, rfl, rfl⟩⟩
    · simp [Value.cells] at hcs
      obtain ⟨rfl, rfl, rfl⟩ := hcs
      exact ⟨zs, .inr ⟨_, rfl, hl, hm, by simpa using hz, hcell, hwz⟩⟩
  clear hA0 hval0
  refine (walk v0 a1 len1 cap1 z1 W w0 w1).mono fun e W' ⟨he, bel⟩ => ?_
  subst he
  exact ⟨_, rfl, _, _, _, [], _, [], hW', trodAll_mk1 (shut_bool Try.underlying4 _), (trodAll_cons_mk (Below.trod laidOut (by kernel_rfl) (of_decide_eq_true (by kernel_rfl)) k0 bel lt0) (trodAll_cons_mk (Below.trod laidOut (by kernel_rfl) (of_decide_eq_true (by kernel_rfl)) k1 bel lt1) trodAll_mk0)), rfl, bel.frame _, fun h => by cases h⟩

theorem over : Rows.fnExactMixColoursRow.holds Try.pinned (OpenSpec.ofChange Rows.fnExactMixColoursSpec) :=
  OpenClaim.holds_of_wide 8 Try.f8 rfl rfl rfl rfl rfl rfl rfl ⟨rfl, rfl, rfl, rfl, rfl⟩ rfl rfl rfl rfl rfl (by kernel_rfl) Try.func8 (by kernel_rfl)
    (of_decide_eq_true (by kernel_rfl)) (by unfold Func.isWrapper; first | (rw [if_pos (by decide +kernel)]; kernel_rfl) | (rw [if_neg (by decide +kernel)]; exact ⟨rfl, rfl⟩))
    (fun os started H enc _ => lifted os started H enc)

/-- ████ THE STATEMENT ████ -/
theorem proved : Rows.FnExactMixColoursSaid := over
#print axioms proved
end Go.Proofs.Ytjnpladpegmiiaa.fnExactMixColours
