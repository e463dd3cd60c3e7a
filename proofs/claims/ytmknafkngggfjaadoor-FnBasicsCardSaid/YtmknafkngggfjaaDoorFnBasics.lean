/-
  The law FnBasics holds for every input: the function answers as its model; the listed package-level variables are tied to the program's text.
-/
import Derived.Test.YtmknafkngggfjaaDoorReadListI
import Derived.Test.YtmknafkngggfjaaDoorListI
import Derived.Test.YtmknafkngggfjaaDoorRoot
import Derived.Test.YtmknafkngggfjaaDoorBackMath
import Derived.Test.YtmknafkngggfjaaDoorBas
import Derived.Test.YtmknafkngggfjaaDoorCards
import Derived.Test.YtmknafkngggfjaaDoorTie
import Derived.Lib.Hide
import Derived.WalkKit
import Derived.ProofKit
import Derived.OpenShut
import Derived.ShutString
import Derived.ChangeOld
import Derived.Below
import Derived.Deep.DeepHandedRow
import Derived.Deep.DeepWitnessRowRef
import Derived.Lib.LaidIn
import Derived.Lib.LaidTab
import Derived.SevenTiedAt
namespace Go.Proofs.YtmknafkngggfjaaDoor.fnBasics
open Go.ChangeShapes Go.WideShapes Go.ChangeAt Go.RowKit
open Go.ChangeMaps (open_string shut_string)
set_option linter.unusedVariables false
set_option linter.unusedSimpArgs false

theorem own : ownKnob Tryd.prog.godebug = none := by kernel_rfl
theorem laidOut : laidOutB Tryd.prog = true := by kernel_rfl
/-- WHAT THE WALK IS TOLD OF A SLICE OF INTEGERS THAT CAME IN: it is nil; or it leads to a row of 'cap' cells, the numbers 'zs' (the first 'len' are its elements, the rest its spare room), each fitting its kind. -/
def IsRow (k : IntKind) (w : World) (a : Option Addr) (len cap : Nat) (zs : List Int) : Prop :=
  (a = none ∧ len = 0 ∧ cap = 0 ∧ zs = []) ∨
  ∃ x, a = some x ∧ len ≤ cap ∧ cap ≤ maxLen ∧ zs.length = cap ∧ (∀ i, i < zs.length → w.cell? (x.add i) = some (.int k (zs.getD i 0))) ∧ ∀ n ∈ zs, (Lit.int k n).wf = true

theorem bel2 {w a b : World} (h1 : Below w.heap.size w a) (h2 : Below a.heap.size a b) : Below w.heap.size w b := h1.trans (h2.mono h1.size)
theorem maxlen_of {w : World} {k : IntKind} {a : Option Addr} {len cap : Nat} {zs : List Int} (h : IsRow k w a len cap zs) : len ≤ maxLen := by
  rcases h with ⟨_, rfl, _⟩ | ⟨x, _, h1, h2, _⟩
  · exact Nat.zero_le _
  · omega
theorem list_text_len (Z : List Int) (h : ∀ n ∈ Z, -1000000000000 ≤ n ∧ n ≤ 1000000000000) (h2 : Z.length ≤ 5) : (listR Z).length ≤ 200 := by
  unfold listR
  split
  · unfold textZ
    split
    · decide
    · have := join_le (Z.map Lib.itoa) (fun x hx => by
        obtain ⟨n, hn, rfl⟩ := List.mem_map.1 hx
        have := h n hn
        exact itoa_len (by omega))
      rw [List.length_map] at this
      omega
  · exact Nat.zero_le _
theorem mk_data (l : List UInt8) : (⟨l.toArray⟩ : ByteArray).data.toList = l := by simp
theorem mk_size (l : List UInt8) : (⟨l.toArray⟩ : ByteArray).size = l.length := by simp [ByteArray.size]
theorem five_in {a b x y z : Int} (ha : -100000 ≤ a ∧ a ≤ 3600000000) (hb : 1 ≤ b ∧ b ≤ 5000) (hx : 0 ≤ x ∧ x < 1000) (hy : -2500 ≤ y ∧ y < 2500) (hz : -2500 ≤ z ∧ z < 2500) :
    ∀ n ∈ [a, b, x, y, z], -1000000000000 ≤ n ∧ n ≤ 1000000000000 := by
  intro n hn
  simp only [List.mem_cons, List.mem_nil_iff, or_false] at hn
  rcases hn with rfl | rfl | rfl | rfl | rfl <;> omega

set_option maxRecDepth 1000000 in
set_option maxHeartbeats 12800000 in
theorem walk (a0 : Option Addr) (len0 cap0 : Nat) (z0 : List Int) (a1 : Option Addr) (len1 cap1 : Nat) (z1 : List Int) (w : World) (w0 : IsRow .u8 w a0 len0 cap0 z0) (w1 : IsRow .u8 w a1 len1 cap1 z1) (hT : TabP w) (hE : ErrsAt w) (hSh : w.ShapedOpen Tryd.prog) :
    Calls Tryd.prog 3 #[.slice a0 len0 cap0, .slice a1 len1 cap1] w fun e w' => e = .returned (.bool true) ∧ Below w.heap.size w w' := by
  have m0 := maxlen_of w0
  have m1 := maxlen_of w1
  obtain ⟨Z0, q0, l0⟩ := u8_in w0
  obtain ⟨Z1, q1, l1⟩ := u8_in w1
  clear w0 w1
  by_cases hL0 : len0 ≤ 1048576
  rotate_left
  · have c := r8Long_first a0 len0 cap0 a1 len1 cap1 hL0 m0
    clear q0 q1
    go_enter Tryd.func3, Tryd.ntmps3
    go_wp2_with fail
    refine (c _).mono ?_
    rintro e _ ⟨rfl, rfl⟩
    go_wp2
    go_ret
    exact ⟨rfl, Below.refl _ _⟩
  by_cases hL1 : len1 ≤ 1048576
  rotate_left
  · have c := r8Long_second a0 len0 cap0 a1 len1 cap1 hL0 hL1 m1
    clear q0 q1
    go_enter Tryd.func3, Tryd.ntmps3
    go_wp2_with fail
    refine (c _).mono ?_
    rintro e _ ⟨rfl, rfl⟩
    go_wp2
    go_ret
    exact ⟨rfl, Below.refl _ _⟩
  have cL := Lib.hid (r8Long_no a0 len0 cap0 a1 len1 cap1 hL0 hL1)
  have cN := Lib.hid (R8Numbers_any (.slice a0 len0 cap0) Z0 w (by omega) q0)
  have hu := Lib.hid q1
  have hZ1 : Z1.length ≤ 1048576 := by omega
  clear q0 q1 hL0 hL1
  obtain ⟨x, hx⟩ : ∃ x, x = wide8 Z1 0 1000 := ⟨_, rfl⟩
  obtain ⟨y, hy0⟩ : ∃ y, y + 2500 = wide8 Z1 2 5000 := ⟨wide8 Z1 2 5000 - 2500, by omega⟩
  obtain ⟨z, hz0⟩ : ∃ z, z + 2500 = wide8 Z1 4 5000 := ⟨wide8 Z1 4 5000 - 2500, by omega⟩
  have ix := wide8_in Z1 0 1000 (by decide)
  have iy := wide8_in Z1 2 5000 (by decide)
  have iz := wide8_in Z1 4 5000 (by decide)
  have cx : Hid (∀ W, U8Old w.heap.size W (.slice a1 len1 cap1) Z1 → Calls Tryd.prog 9 #[.slice a1 len1 cap1, .int .i64 0, .int .i64 1000] W fun e w' => e = .returned (.int .i64 x) ∧ ∃ m, w' = W.drewN m) :=
    Lib.hid (fun W h => by rw [hx]; exact r8Wide_any 0 w.heap.size 1000 _ Z1 W (by decide) (by decide) (by decide) hZ1 h)
  have cy : Hid (∀ W, U8Old w.heap.size W (.slice a1 len1 cap1) Z1 → Calls Tryd.prog 9 #[.slice a1 len1 cap1, .int .i64 2, .int .i64 5000] W fun e w' => e = .returned (.int .i64 (y + 2500)) ∧ ∃ m, w' = W.drewN m) :=
    Lib.hid (fun W h => by rw [hy0]; exact r8Wide_any 2 w.heap.size 5000 _ Z1 W (by decide) (by decide) (by decide) hZ1 h)
  have cz : Hid (∀ W, U8Old w.heap.size W (.slice a1 len1 cap1) Z1 → Calls Tryd.prog 9 #[.slice a1 len1 cap1, .int .i64 4, .int .i64 5000] W fun e w' => e = .returned (.int .i64 (z + 2500)) ∧ ∃ m, w' = W.drewN m) :=
    Lib.hid (fun W h => by rw [hz0]; exact r8Wide_any 4 w.heap.size 5000 _ Z1 W (by decide) (by decide) (by decide) hZ1 h)
  rw [← hx] at ix
  rw [← hy0] at iy
  rw [← hz0] at iz
  clear hx hy0 hz0
  have iy' : -2500 ≤ y ∧ y < 2500 := by omega
  have iz' : -2500 ≤ z ∧ z < 2500 := by omega
  clear iy iz
  obtain ⟨iy1, iy2⟩ := iy'
  obtain ⟨iz1, iz2⟩ := iz'
  have hT' := Lib.hid hT
  have hE' := Lib.hid hE
  have hS' := Lib.hid hSh
  clear hT hE hSh
  go_enter Tryd.func3, Tryd.ntmps3
  go_wp2_with fail
  refine (cL.out _).mono ?_
  rintro e _ ⟨rfl, rfl⟩
  go_wp2_with fail
  refine cN.out.mono ?_
  rintro e w2 ⟨a, b, rfl, ha0, ha1, hb0, hb1, g2⟩
  have G2 := Lib.hid g2
  clear g2 cL cN
  obtain ⟨r, hr⟩ : ∃ r, r = rootR a := ⟨_, rfl⟩
  have cr : Hid (∀ W, Calls Tryd.prog 6 #[.int .i64 a] W fun e w' => e = .returned (.int .i64 r) ∧ W = w') := Lib.hid (fun W => by rw [hr]; exact implRootOf_any a (by omega) W)
  obtain ⟨q, hq⟩ : ∃ q, q = rnd a b := ⟨_, rfl⟩
  have hnear := rnd_near a b (by omega)
  have hminus := rnd_minus a b (by omega)
  rw [← hq] at hnear hminus
  have cq : Hid (∀ W, Calls Tryd.prog 7 #[.int .i64 a, .int .i64 b] W fun e w' => e = .returned (.int .i64 q) ∧ ∃ n, w' = W.drewN n) :=
    Lib.hid (fun W => by rw [hq, ← divR_rnd a b (by omega) (by omega) hb0 (by omega)]; exact implDivRound_any a b W)
  have cm : Hid (∀ W, Calls Tryd.prog 7 #[.int .i64 (-a), .int .i64 b] W fun e w' => e = .returned (.int .i64 (-q)) ∧ ∃ n, w' = W.drewN n) :=
    Lib.hid (fun W => by rw [← hminus, ← divR_rnd (-a) b (by omega) (by omega) hb0 (by omega)]; exact implDivRound_any (-a) b W)
  have hqb := rnd_bd a b (by omega)
  rw [← hq] at hqb
  clear hminus hq
  go_wp2_with fail
  refine (cr.out _).mono ?_
  rintro e _ ⟨rfl, rfl⟩
  clear cr
  have hrr : (a < 0 ∧ r = 0) ∨ (0 ≤ a ∧ 0 ≤ r ∧ r ≤ 60000 ∧ r * r ≤ a ∧ a < (r + 1) * (r + 1)) := by
    rw [hr]
    rcases Int.lt_or_le a 0 with h | h
    · exact Or.inl ⟨h, rootR_neg a h⟩
    · exact Or.inr ⟨h, rootR_facts a h ha1⟩
  clear hr
  obtain ⟨d, hd⟩ : ∃ d, d = max (a - q * b) (-(a - q * b)) := ⟨_, rfl⟩
  have hd1 : 0 ≤ d ∧ 2 * d ≤ b := by omega
  have cA : Hid (∀ W, Calls Tryd.prog 8 #[.int .i64 (a - q * b)] W fun e w' => e = .returned (.int .i64 d) ∧ W = w') :=
    Lib.hid (fun W => by rw [hd]; exact r8Abs_any _ (by omega) (by omega) W)
  clear hd
  obtain ⟨hd0, hd2⟩ := hd1
  have hd3 : d ≤ 2500 := by omega
  have hdd : decide (b < 2 * d) = false := decide_eq_false (by omega)
  clear hd2
  have hq1 : -3600000001 ≤ q ∧ q ≤ 3600000001 := by omega
  have hqb2 : -100000 - 5000 ≤ q * b ∧ q * b ≤ 3600000000 + 5000 := by omega
  obtain ⟨hq2, hq3⟩ := hq1
  obtain ⟨hq4, hq5⟩ := hqb2
  clear hqb hnear
  have HU := Lib.hid (hu.out.below G2.out)
  clear hu
  have iny : in6 y = true := inB_iff.2 ⟨by omega, by omega⟩
  have inz : in6 z = true := inB_iff.2 ⟨by omega, by omega⟩
  obtain ⟨v, hv⟩ : ∃ v, v = blendR 0 y 1000 z x := ⟨_, rfl⟩
  have hv1 := line_between y z x ix.1 ix.2
  rw [← blend_line _ _ _ iny inz, ← hv] at hv1
  have cb : Hid (∀ W, Calls Tryd.prog 10 #[.int .i64 0, .int .i64 y, .int .i64 1000, .int .i64 z, .int .i64 x] W fun e w' => e = .returned (.int .i64 v) ∧ ∃ n, w' = W.drewN n) :=
    Lib.hid (fun W => by rw [hv]; exact implBlend_any _ _ _ _ _ W)
  have cb0 : Hid (∀ W, Calls Tryd.prog 10 #[.int .i64 0, .int .i64 y, .int .i64 1000, .int .i64 z, .int .i64 0] W fun e w' => e = .returned (.int .i64 y) ∧ ∃ n, w' = W.drewN n) :=
    Lib.hid (fun W => (implBlend_any 0 y 1000 z 0 W).mono fun e w' h => ⟨by rw [h.1, blend_line _ _ _ iny inz, line_first], h.2⟩)
  have cb1 : Hid (∀ W, Calls Tryd.prog 10 #[.int .i64 0, .int .i64 y, .int .i64 1000, .int .i64 z, .int .i64 1000] W fun e w' => e = .returned (.int .i64 z) ∧ ∃ n, w' = W.drewN n) :=
    Lib.hid (fun W => (implBlend_any 0 y 1000 z 1000 W).mono fun e w' h => ⟨by rw [h.1, blend_line _ _ _ iny inz, line_last], h.2⟩)
  clear hv iny inz
  have hz5 := five_in (a := a) (b := b) (x := x) (y := y) (z := z) ⟨ha0, ha1⟩ ⟨hb0, hb1⟩ ix (by omega) (by omega)
  obtain ⟨S, hS⟩ : ∃ S : ByteArray, S = ⟨(listR [a, b, x, y, z]).toArray⟩ := ⟨_, rfl⟩
  have hS1 : S.size ≤ 1048576 := by
    rw [hS, mk_size]
    have := list_text_len _ hz5 (Nat.le_refl 5)
    omega
  have cl : Hid (∀ W V, IntsAt W V [a, b, x, y, z] → TabP W → Calls Tryd.prog 12 #[V] W fun e w' => e = .returned (.string S) ∧ Below W.heap.size W w') :=
    Lib.hid (fun W V h h2 => by rw [hS]; exact implListText_any V _ W (show 5 ≤ 1048576 by decide) h h2)
  have cR : Hid (∀ W, TabP W → ErrsAt W → W.ShapedOpen Tryd.prog → Calls Tryd.prog 11 #[.string S] W fun e w' => ∃ v, e = .returned (.tuple #[v, .bool true]) ∧ IntsAt w' v [a, b, x, y, z] ∧ Below W.heap.size W w') :=
    Lib.hid (fun W h1 h2 h3 => (implReadList_any S W hS1 h1 h2 h3).mono fun e w' h => by
      rw [hS, mk_data, list_back _ hz5 (show 0 < 5 by decide) (show 5 ≤ 64 by decide)] at h
      obtain ⟨v, e1, o, b1⟩ := h
      exact ⟨v, e1, ints_own o (fun n hn => by have := hz5 n hn; unfold inI; omega), b1⟩)
  clear hS hS1
  obtain ⟨T, hTT⟩ : ∃ T : ByteArray, T = ⟨(Lib.itoa a).toArray⟩ := ⟨_, rfl⟩
  have hT1 : T.size ≤ 1048576 := by
    rw [hTT, mk_size]
    have := itoa_len (n := a) (by omega)
    omega
  have cD : Hid (∀ W, TabP W → Calls Tryd.prog 14 #[.int .i64 a] W fun e w' => e = .returned (.string T) ∧ Below W.heap.size W w') :=
    Lib.hid (fun W h => by rw [hTT]; exact implDecimal_any a (by omega) (by omega) W h)
  have cE : Hid (∀ W, TabP W → ErrsAt W → Calls Tryd.prog 13 #[.string T] W fun e w' => e = .returned (.tuple #[.int .i64 a, .bool true]) ∧ Below W.heap.size W w') :=
    Lib.hid (fun W h1 h2 => (implReadDecimal_any T W hT1 h1 h2).mono fun e w' h => by
      rw [hTT, mk_data, back_D a (by omega) (by omega)] at h
      exact h)
  clear hTT hT1
  have hfive := Lib.hid (fun W t => ints_five W t a b x y z (by unfold inI; omega) (by unfold inI; omega) (by unfold inI; omega) (by unfold inI; omega) (by unfold inI; omega))
  clear hz5
  have hv3 := Lib.hid hv1
  clear hv1
  have hq2' := Lib.hid (And.intro hq2 hq3)
  have hq4' := Lib.hid (And.intro hq4 hq5)
  have hdA := Lib.hid (And.intro hd0 (And.intro hd3 hdd))
  have hrr' := Lib.hid hrr
  clear hrr hq2 hq3 hq4 hq5 hd0 hd3 hdd
  go_upto_region 5 with fail
  go_cut [61] from 28 to 61 (fun s61 wx => s61 = .bool false ∧ wx = w2)
  case first =>
    rcases hrr'.out with ⟨ha, rfl⟩ | ⟨ha, hr0, hr1, hr2, hr3⟩
    · clear hrr'
      go_wp2
      go_meet
      exact ⟨rfl, rfl⟩
    · have hr4 : 0 ≤ r * r := Int.mul_nonneg hr0 hr0
      have hr5 : (r + 1) * (r + 1) ≤ 60001 * 60001 := sq_lt (by omega) (by omega)
      have hr6 : 0 ≤ (r + 1) * (r + 1) := Int.mul_nonneg (by omega) (by omega)
      have ew0 : IntKind.i64.wrap (r + 1) = r + 1 := IntWalk.i64_in _ (by omega)
      have ew1 : IntKind.i64.wrap (r * r) = r * r := IntWalk.i64_in _ (by omega)
      have ew2 : IntKind.i64.wrap ((r + 1) * (r + 1)) = (r + 1) * (r + 1) := IntWalk.i64_in _ (by omega)
      have d1 : decide (a < r * r) = false := decide_eq_false (by omega)
      have d2 : decide ((r + 1) * (r + 1) ≤ a) = false := decide_eq_false (by omega)
      clear hrr' hr2 hr3 hr4 hr5 hr6
      go_wp2
      go_meet
      exact ⟨congrArg Value.bool (by rw [decide_eq_false (by omega), decide_eq_false (by omega)]; rfl), rfl⟩
  case rest =>
    obtain ⟨rfl, rfl⟩ := hcut
    obtain ⟨hq2, hq3⟩ := hq2'.out
    obtain ⟨hq4, hq5⟩ := hq4'.out
    obtain ⟨hd0, hd3, hdd⟩ := hdA.out
    clear hrr' hq2' hq4' hdA
    go_wp2_with fail
    refine (cq.out _).mono ?_
    rintro e _ ⟨rfl, n1, rfl⟩
    clear cq
    go_wp2_with fail
    refine (cA.out _).mono ?_
    rintro e _ ⟨rfl, rfl⟩
    clear cA hq4 hq5
    go_wp2_with fail
    refine (cm.out _).mono ?_
    rintro e _ ⟨rfl, n2, rfl⟩
    clear cm hd0 hd3 hdd
    go_wp2_with fail
    refine (cx.out _ (HU.out.drewN _)).mono ?_
    rintro e _ ⟨rfl, n3, rfl⟩
    clear cx
    go_wp2_with fail
    refine (cy.out _ (HU.out.drewN _)).mono ?_
    rintro e _ ⟨rfl, n4, rfl⟩
    clear cy
    go_wp2_with fail
    refine (cz.out _ (HU.out.drewN _)).mono ?_
    rintro e _ ⟨rfl, n5, rfl⟩
    clear cz HU
    go_wp2_with fail
    refine (cb.out _).mono ?_
    rintro e _ ⟨rfl, n6, rfl⟩
    clear cb
    go_upto_region 14 with fail
    go_cut [120] from 95 to 120 (fun s120 wx => s120 = .bool false ∧ Hid (Below w.heap.size w wx))
    case first =>
      rcases Int.lt_or_le z y with hyz | hyz
      · have hv5 : z ≤ v := by have := hv3.out; omega
        have hv6 : v ≤ y := by have := hv3.out; omega
        clear hv3
        go_wp2_with (go_at_call 10; (first | (with_reducible refine (cb0.out _).mono ?_) | (with_reducible refine (cb1.out _).mono ?_)); rintro e _ ⟨rfl, n7, rfl⟩)
        all_goals go_meet
        all_goals exact ⟨congrArg Value.bool (by rw [decide_eq_false (by omega), decide_eq_false (by omega)]; rfl), Lib.hid (belowN G2.out _)⟩
      · have hv5 : y ≤ v := by have := hv3.out; omega
        have hv6 : v ≤ z := by have := hv3.out; omega
        clear hv3
        go_wp2_with (go_at_call 10; (first | (with_reducible refine (cb0.out _).mono ?_) | (with_reducible refine (cb1.out _).mono ?_)); rintro e _ ⟨rfl, n7, rfl⟩)
        all_goals go_meet
        all_goals exact ⟨congrArg Value.bool (by rw [decide_eq_false (by omega), decide_eq_false (by omega)]; rfl), Lib.hid (belowN G2.out _)⟩
    case rest =>
      obtain ⟨rfl, B3⟩ := hcut
      clear cb0 cb1 hv3
      have hI := Lib.hid (fun t => hfive.out wc t)
      have hAl := Lib.hid (fun (C : Array Value) t => ((Below.refl wc.heap.size wc).alloc (Nat.le_refl _) (.cells C t)))
      go_wp2_with fail
      refine (cl.out _ _ (hI.out _) (hT'.out.below (bel2 B3.out (hAl.out _ _)))).mono ?_
      rintro e v1 ⟨rfl, b1⟩
      have I1 := Lib.hid ((hI.out _).below b1)
      have B4 := Lib.hid (bel2 (bel2 B3.out (hAl.out _ _)) b1)
      clear b1 cl
      go_wp2_with fail
      refine (cR.out _ (hT'.out.below B4.out) (hE'.out.below B4.out) (shape_below hS'.out B4.out)).mono ?_
      rintro e v2 ⟨vl, rfl, il, b2⟩
      have I2 := Lib.hid (I1.out.below b2)
      have L2 := Lib.hid il
      have B5 := Lib.hid (bel2 B4.out b2)
      clear b2 cR il B4 I1
      go_wp2_with fail
      refine (cD.out _ (hT'.out.below B5.out)).mono ?_
      rintro e v3 ⟨rfl, b3⟩
      have I3 := Lib.hid (I2.out.below b3)
      have L3 := Lib.hid (L2.out.below b3)
      have B6 := Lib.hid (bel2 B5.out b3)
      clear b3 cD B5 I2 L2
      go_wp2_with fail
      refine (cE.out _ (hT'.out.below B6.out) (hE'.out.below B6.out)).mono ?_
      rintro e v4 ⟨rfl, b4⟩
      have I4 := Lib.hid (I3.out.below b4)
      have L4 := Lib.hid (L3.out.below b4)
      have B7 := Lib.hid (bel2 B6.out b4)
      clear b4 cE B6 I3 L3
      go_wp2_with fail
      refine (r8Same_any _ _ [a, b, x, y, z] _ (show 5 ≤ 1048577 by decide) L4.out I4.out).mono ?_
      rintro e _ ⟨rfl, n8, rfl⟩
      go_wp2
      go_ret
      exact ⟨rfl, belowN B7.out _⟩

/-- A world for the witness: the settled one, the listed variables holding what their initialisers lay. -/
noncomputable def laidWorld (os : Os) : World :=
  let N := (World.settled Tryd.prog os).heap.size
  let w0 := World.holding Tryd.prog os ⟨#[.cells #[.string ⟨([118, 97, 108, 117, 101, 32, 111, 117, 116, 32, 111, 102, 32, 114, 97, 110, 103, 101] : List UInt8).toArray⟩] 105, .cells #[.string ⟨([105, 110, 118, 97, 108, 105, 100, 32, 115, 121, 110, 116, 97, 120] : List UInt8).toArray⟩] 105], #[], []⟩
  let put (h : Array Obj) (g : Nat) (cs : Array Value) : Array Obj := h.modify g fun
    | .cells _ t frozen => .cells cs t frozen
    | o => o
  let h0 := put w0.heap 6 #[.int .u8 0, .int .u8 1, .int .u8 28, .int .u8 2, .int .u8 29, .int .u8 14, .int .u8 24, .int .u8 3, .int .u8 30, .int .u8 22, .int .u8 20, .int .u8 15, .int .u8 25, .int .u8 17, .int .u8 4, .int .u8 8, .int .u8 31, .int .u8 27, .int .u8 13, .int .u8 23, .int .u8 21, .int .u8 19, .int .u8 16, .int .u8 7, .int .u8 26, .int .u8 12, .int .u8 18, .int .u8 6, .int .u8 11, .int .u8 5, .int .u8 10, .int .u8 9]
  let h1 := put h0 7 #[.int .u8 0, .int .u8 1, .int .u8 56, .int .u8 2, .int .u8 57, .int .u8 49, .int .u8 28, .int .u8 3, .int .u8 61, .int .u8 58, .int .u8 42, .int .u8 50, .int .u8 38, .int .u8 29, .int .u8 17, .int .u8 4, .int .u8 62, .int .u8 47, .int .u8 59, .int .u8 36, .int .u8 45, .int .u8 43, .int .u8 51, .int .u8 22, .int .u8 53, .int .u8 39, .int .u8 33, .int .u8 30, .int .u8 24, .int .u8 18, .int .u8 12, .int .u8 5, .int .u8 63, .int .u8 55, .int .u8 48, .int .u8 27, .int .u8 60, .int .u8 41, .int .u8 37, .int .u8 16, .int .u8 46, .int .u8 35, .int .u8 44, .int .u8 21, .int .u8 52, .int .u8 32, .int .u8 23, .int .u8 11, .int .u8 54, .int .u8 26, .int .u8 40, .int .u8 15, .int .u8 34, .int .u8 20, .int .u8 31, .int .u8 10, .int .u8 25, .int .u8 14, .int .u8 19, .int .u8 9, .int .u8 13, .int .u8 8, .int .u8 7, .int .u8 6]
  let h2 := put h1 2 #[.int .u64 1, .int .u64 10, .int .u64 100, .int .u64 1000, .int .u64 10000, .int .u64 100000, .int .u64 1000000, .int .u64 10000000, .int .u64 100000000, .int .u64 1000000000, .int .u64 10000000000, .int .u64 100000000000, .int .u64 1000000000000, .int .u64 10000000000000, .int .u64 100000000000000, .int .u64 1000000000000000, .int .u64 10000000000000000, .int .u64 100000000000000000, .int .u64 1000000000000000000, .int .u64 10000000000000000000]
  let h3 := put h2 5 #[.int .u8 128, .int .u8 191, .int .u8 160, .int .u8 191, .int .u8 128, .int .u8 159, .int .u8 144, .int .u8 191, .int .u8 128, .int .u8 143, .int .u8 0, .int .u8 0, .int .u8 0, .int .u8 0, .int .u8 0, .int .u8 0, .int .u8 0, .int .u8 0, .int .u8 0, .int .u8 0, .int .u8 0, .int .u8 0, .int .u8 0, .int .u8 0, .int .u8 0, .int .u8 0, .int .u8 0, .int .u8 0, .int .u8 0, .int .u8 0, .int .u8 0, .int .u8 0]
  let h4 := put h3 1 #[.iface 103 (.pointer (some ⟨N + 0, 0, none⟩))]
  let h5 := put h4 0 #[.iface 103 (.pointer (some ⟨N + 1, 0, none⟩))]
  let h6 := put h5 4 (Lib.firstTab.map fun z => Value.int .u8 z).toArray
  { w0 with heap := h6 }
noncomputable abbrev N0 : Nat := (World.settled Tryd.prog default).heap.size
set_option maxRecDepth 1000000 in
theorem laid_met (os : Os) : laidMet Tryd.prog Rows.fnBasicsRow.laid ((laidWorld os).forCall (fun _ _ => 0) ⟨#[], #[.slice none 0 0, .slice none 0 0], []⟩).memory :=
  (LaidIn.of_run (l := Rows.fnBasicsRow.laid) [6, 7, 2, 5, 1, N0 + 0, 0, N0 + 1, 4] 10 (by kernel_rfl) (by kernel_rfl) (by kernel_rfl) (by kernel_rfl)).met
theorem reads (os : Os) {H : Type} (enc : TypeId × Value → H) : ∃ places, DataW.whole enc Tryd.prog ((laidWorld os).forCall (fun _ _ => 0) ⟨#[], #[.slice none 0 0, .slice none 0 0], []⟩).memory Tryd.f3.params.toList Rows.fnBasicsSpec.vars false (#[.slice none 0 0, .slice none 0 0] : Array Value).toList 8 = some ([.nil, .nil], [], places) :=
  ⟨[], by kernel_rfl⟩
set_option maxRecDepth 100000 in
theorem lifted (os : Os) (started : os.Started) (H : Type) (enc : TypeId × Value → H) (F : Stop.Interp) :
    ReturnsInHanded {} Tryd.checked os 3 .any ((OpenSpec.ofChange Rows.fnBasicsSpec).preRow enc Tryd.prog Tryd.f3 Rows.fnBasicsRow.domain false Rows.fnBasicsRow.laid) (((OpenSpec.ofChange Rows.fnBasicsSpec).at F).post enc Tryd.prog Tryd.f3 false true false false) := by
  obtain ⟨places, hx⟩ := reads os enc
  refine returnsInHanded_of_row (C := Tryd.checked) (s := (OpenSpec.ofChange Rows.fnBasicsSpec)) own started (by kernel_rfl) Tryd.func3
    (witness_row_atRef (enc := enc) (C := Tryd.checked) false (laidWorld os) #[.slice none 0 0, .slice none 0 0] rfl (by kernel_rfl) (by kernel_rfl) (by kernel_rfl)
      (OpenSpec.preRow_of_cond 8 hx (by kernel_rfl) (fun k hk => by cases hk) (by kernel_rfl) (laid_met os))) ?_
  intro W base args ds gs before hval0 hW hcnd hcond _ hL0 hShape _
  have hL : laidMet Tryd.prog Rows.fnBasicsRow.laid W := hL0
  have hval : ∀ (j : Nat) t v, Tryd.f3.params[j]? = some t → args[j]? = some v → Value.okWide Tryd.prog W .any base t v := hval0
  have hW' := hW
  obtain ⟨p, q, hA0, hV, rfl, hfz, hnd⟩ := hW
  have hA : DataW.TrodAll enc Tryd.prog W 0 (fun _ => true) true Tryd.f3.params.toList args.toList ds p := hA0
  rw [Tryd.params3] at hA hval
  obtain ⟨v0, vs0, d0, ds0, p0, q0, hargs, rfl, rfl, h0, r0⟩ := trodAll_cons hA
  obtain ⟨v1, vs1, d1, ds1, p1, q1, rfl, rfl, rfl, h1, r1⟩ := trodAll_cons r0
  obtain ⟨rfl, rfl, rfl⟩ := trodAll_nil r1
  obtain rfl : args = #[v0, v1] := by cases args; simp_all
  obtain ⟨rfl, rfl⟩ := trodVars_none hV
  obtain ⟨a0, len0, cap0, rfl⟩ := okWide_slice Tryd.underlying22 (hval 0 22 v0 rfl rfl)
  have k0 := h0
  have lt0 : ∀ x ∈ p0, x.block < W.heap.size := by obtain ⟨m, hm⟩ := k0; exact DataW.trod_lt m _ _ _ hm
  obtain ⟨z0, w0⟩ : ∃ zs, IsRow .u8 W a0 len0 cap0 zs := by
    obtain ⟨fuel, hf⟩ := h0
    rcases open_ints Tryd.underlying22 Tryd.underlying5 (by kernel_rfl) hf with ⟨hcs, _⟩ | ⟨x, l, c, zs, hcs, _, hl, hm, hz, _, hcell, hwz⟩
    · simp [Value.cells] at hcs
      obtain ⟨rfl, rfl, rfl⟩ := hcs
      exact ⟨[], .inl ⟨rfl, rfl, rfl, rfl⟩⟩
    · simp [Value.cells] at hcs
      obtain ⟨rfl, rfl, rfl⟩ := hcs
      exact ⟨zs, .inr ⟨_, rfl, hl, hm, by simpa using hz, hcell, hwz⟩⟩
  obtain ⟨a1, len1, cap1, rfl⟩ := okWide_slice Tryd.underlying22 (hval 1 22 v1 rfl rfl)
  have k1 := h1
  have lt1 : ∀ x ∈ p1, x.block < W.heap.size := by obtain ⟨m, hm⟩ := k1; exact DataW.trod_lt m _ _ _ hm
  obtain ⟨z1, w1⟩ : ∃ zs, IsRow .u8 W a1 len1 cap1 zs := by
    obtain ⟨fuel, hf⟩ := h1
    rcases open_ints Tryd.underlying22 Tryd.underlying5 (by kernel_rfl) hf with ⟨hcs, _⟩ | ⟨x, l, c, zs, hcs, _, hl, hm, hz, _, hcell, hwz⟩
    · simp [Value.cells] at hcs
      obtain ⟨rfl, rfl, rfl⟩ := hcs
      exact ⟨[], .inl ⟨rfl, rfl, rfl, rfl⟩⟩
    · simp [Value.cells] at hcs
      obtain ⟨rfl, rfl, rfl⟩ := hcs
      exact ⟨zs, .inr ⟨_, rfl, hl, hm, by simpa using hz, hcell, hwz⟩⟩
  clear hA0 hval0
  refine (walk a0 len0 cap0 z0 a1 len1 cap1 z1 W w0 w1 (tabP_head hL.tail.tail) (errs_of_laid hL.tail.tail.tail.tail) (hShape)).mono fun e W' ⟨he, bel⟩ => ?_
  subst he
  exact ⟨_, rfl, _, _, _, [], _, [], hW', trodAll_mk1 (shut_bool Tryd.underlying4 _), (trodAll_cons_mk (Below.trod laidOut (by kernel_rfl) (of_decide_eq_true (by kernel_rfl)) k0 bel lt0) (trodAll_cons_mk (Below.trod laidOut (by kernel_rfl) (of_decide_eq_true (by kernel_rfl)) k1 bel lt1) trodAll_mk0)), rfl, bel.frame _, fun h => by cases h⟩

theorem said : Rows.FnBasicsSaid :=
  OpenClaim.holds_of_cond 3 Tryd.f3 rfl rfl rfl rfl rfl rfl rfl ⟨rfl, rfl, rfl, rfl, rfl⟩ rfl rfl rfl rfl rfl (by kernel_rfl) Tryd.func3 (by kernel_rfl)
    (of_decide_eq_true (by kernel_rfl)) (by unfold Func.isWrapper; first | (rw [if_pos (by decide +kernel)]; kernel_rfl) | (rw [if_neg (by decide +kernel)]; exact ⟨rfl, rfl⟩))
    (fun os started H enc _ F => by rw [OpenClaim.pre_eq_preRow]; exact lifted os started H enc F)

theorem plain (f : FuncId) (fn : Func) (hf : Tryd.pinned.checked.prog.funcNamed "loop.example/g01061/laws.FnBasics" = some f) (hfn : Tryd.pinned.checked.prog.funcs[f]? = some fn) :
    true = Tryd.pinned.checked.prog.looks [] ∧ ∀ (j : Nat) t, fn.params[j]? = some t → Tryd.pinned.checked.prog.wantsStandIn t = false := by
  obtain rfl : f = 3 := Option.some.inj ((show Tryd.prog.funcNamed "loop.example/g01061/laws.FnBasics" = some 3 by kernel_rfl).symm.trans hf) |>.symm
  obtain rfl : fn = Tryd.f3 := (Option.some.inj (Tryd.func3.symm.trans hfn)).symm
  refine ⟨by kernel_rfl, fun j t ht => ?_⟩
  rw [Tryd.params3] at ht
  have hm := Array.mem_of_getElem? ht
  simp only [List.mem_toArray, List.mem_cons, List.mem_nil_iff, or_false] at hm
  rcases hm with rfl | rfl
  · exact (show Tryd.prog.wantsStandIn 22 = false by kernel_rfl)
  · exact (show Tryd.prog.wantsStandIn 22 = false by kernel_rfl)

/-- the statement -/
theorem proved : Rows.FnBasicsCardSaid :=
  Claim7.holds_tied_plain_at .later [] _ _ _ _ said (fun _ h => by cases h) (by kernel_rfl) (fun _ h => by cases h) fnBasics_row_tie rfl ⟨rfl, rfl⟩ (by kernel_rfl) rfl plain (by kernel_rfl)
#print axioms proved
end Go.Proofs.YtmknafkngggfjaaDoor.fnBasics
