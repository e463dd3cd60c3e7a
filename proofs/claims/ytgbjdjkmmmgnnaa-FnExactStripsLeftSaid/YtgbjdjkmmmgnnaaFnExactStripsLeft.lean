/-
  The law FnExactStripsLeft holds for every input: the function answers as its model; conditions: none beside the row's own.
-/
import Derived.Test.YtgbjdjkmmmgnnaaSlI
import Derived.Test.YtgbjdjkmmmgnnaaSlS
import Derived.Test.YtgbjdjkmmmgnnaaRibs3
import Derived.Test.YtgbjdjkmmmgnnaaRibsM
import Derived.Lib.Hide
import Derived.Test.YtgbjdjkmmmgnnaaRows
import Derived.WalkKit
import Derived.ProofKit
import Derived.OpenShut
import Derived.ShutString
import Derived.ChangeOld
import Derived.Below
namespace Go.Proofs.Ytgbjdjkmmmgnnaa.fnExactStripsLeft
open Go.ChangeShapes Go.WideShapes Go.ChangeAt Go.RowKit
open Go.ChangeMaps (open_string shut_string)
set_option linter.unusedVariables false

theorem own : ownKnob Try.prog.godebug = none := by kernel_rfl
theorem laidOut : laidOutB Try.prog = true := by kernel_rfl

/-- WHAT THE WALK IS TOLD OF A SLICE OF INTEGERS THAT CAME IN: it is nil; or it leads to a row of 'cap' cells, the numbers 'zs' (the first 'len' are its elements, the rest its spare room), each fitting its kind. -/
def IsRow (k : IntKind) (w : World) (a : Option Addr) (len cap : Nat) (zs : List Int) : Prop :=
  (a = none ∧ len = 0 ∧ cap = 0 ∧ zs = []) ∨
  ∃ x, a = some x ∧ len ≤ cap ∧ cap ≤ maxLen ∧ zs.length = cap ∧ (∀ i, i < zs.length → w.cell? (x.add i) = some (.int k (zs.getD i 0))) ∧ ∀ n ∈ zs, (Lit.int k n).wf = true

/-! ### STEP 1: THE WALK: the Go text returns true, AND WRITES NOTHING THAT WAS THERE: 'Below w.heap.size w w'' (Derived/Below.lean: '.refl', '.alloc', '.drew', '.setCell' at a new block, '.trans'). Open each 'IsRow' by 'rcases' AHEAD of 'go_enter'; part every test ahead of the walk. -/
theorem own_apart2 {w w' : World} {B e size n m : Nat} {v u : Value} {xs ys : List Value} (h : w.ownsRow B e size v n xs) (k : w'.ownsRow w.heap.size e size u m ys) : u.ownBlock = none ∨ u.ownBlock ≠ v.ownBlock := by
  rcases own_apart h k with h1 | h1
  · cases e1 : u.ownBlock with
    | none => exact Or.inl rfl
    | some a => right; rw [h1]; exact fun h => by cases h
  · exact Or.inr (fun h => h1 h.symm)

set_option maxHeartbeats 1000000 in
theorem walk (a0 : Value) (a1 : Option Addr) (len1 cap1 : Nat) (z1 : List Int) (a2 : Int) (a3 : Int) (w : World) (w0 : RibsV w a0) (w1 : IsRow .i64 w a1 len1 cap1 z1) (w2 : (Lit.int .i64 a2).wf = true) (w3 : (Lit.int .i64 a3).wf = true) :
    Calls Try.prog 9 #[a0, .slice a1 len1 cap1, .int .i64 a2, .int .i64 a3] w fun e w' => e = .returned (.bool true) ∧ Below w.heap.size w w' := by
  obtain ⟨Z, hZ, hZl⟩ := w0
  obtain ⟨G, hG, hlen1⟩ := ints_in w1
  have hZ' := Lib.hid hZ
  have hG' := Lib.hid hG
  by_cases hL1 : len1 ≤ 1048576
  rotate_left
  · clear hG w1 hZ
    go_enter Try.func9, Try.ntmps9
    go_wp2
    go_ret
    exact ⟨rfl, Below.refl _ _⟩
  have hG1 : G.length ≤ 1048576 := by omega
  have hzz : ∀ n ∈ G, inI n := by obtain ⟨_, _, _, _, h, _⟩ := hG; exact h
  have hzz' := Lib.hid hzz
  clear hZ hG hzz w1
  go_enter Try.func9, Try.ntmps9
  go_wp2_with fail
  refine (szRibS_any a0 Z _ hZl hZ'.out).mono ?_
  rintro e u1 ⟨n, rfl, hn0, hn1, hn2, d1⟩
  by_cases hneg : n < 0
  · go_wp2
    go_ret
    exact ⟨rfl, d1⟩
  obtain ⟨hlen, hids⟩ := hn2 (by omega)
  have hlen' := Lib.hid hlen
  obtain ⟨hin, hl12⟩ := slV_in (Z := Z) (G := G) (L := a2) (W := a3)
  have cs := fun W V U (h : RibsAt W V Z) (h2 : IntsAt W U G) => specStripsLeft_any V U Z G a2 a3 W hlen hG1 h h2
  have ci := fun W V U (h : RibsAt W V Z) (h2 : IntsAt W U G) => implStripsLeft_any V U Z G a2 a3 W hlen hG1 h h2
  obtain ⟨LL, hLL⟩ : ∃ LL, LL = slV Z G a2 a3 := ⟨_, rfl⟩
  obtain ⟨cc, hcc⟩ : ∃ cc, cc = slC Z G a2 a3 := ⟨_, rfl⟩
  rw [← hLL, ← hcc] at cs ci
  rw [← hLL] at hin hl12
  have cs' := Lib.hid cs
  have ci' := Lib.hid ci
  have hin' := Lib.hid hin
  clear hids hZl cs ci hLL hcc hin hlen
  go_wp2_with fail
  refine (toRibS_any a0 Z _ hlen'.out (hZ'.out.below d1)).mono ?_
  rintro e u2 ⟨v2, rfl, p2, d2⟩
  have D2 := d1.trans (d2.mono d1.size)
  go_wp2_with fail
  refine (toInt64S_any _ G _ hG1 (hG'.out.below D2)).mono ?_
  rintro e u2b ⟨v2b, rfl, o2b, d2b⟩
  have D2b := D2.trans (d2b.mono D2.size)
  have r2b := ints_own o2b hzz'.out
  have p2b := p2.below d2b
  clear o2b d2b D2 p2 d1 d2
  go_wp2_with fail
  refine (cs'.out _ _ _ p2b r2b).mono ?_
  rintro e u3 ⟨v3, rfl, o3, d3⟩
  have D3 := D2b.trans (d3.mono D2b.size)
  clear d3 D2b p2b r2b
  go_wp2_with fail
  refine (toRibS_new a0 Z _ hlen'.out (hZ'.out.below D3)).mono ?_
  rintro e u4 ⟨rfl, p4, th4, lt4, d4⟩
  have o34 := own_kept o3 d4
  have ap3x : v3.ownBlock = none ∨ v3.ownBlock ≠ some u3.heap.size := Or.inr (fun h => by have := (o3.lt _ h).2; omega)
  have hx3 : w.heap.size ≤ u3.heap.size := D3.size
  have D4 := D3.trans (d4.mono D3.size)
  clear d4 D3 o3
  go_wp2_with fail
  refine (toInt64S_any _ G _ hG1 (hG'.out.below D4)).mono ?_
  rintro e u4b ⟨x1, rfl, ox, d4b⟩
  have o34b := own_kept o34 d4b
  have ap3g := own_apart o34 ox
  have apxx : x1.ownBlock = none ∨ x1.ownBlock ≠ some u3.heap.size := Or.inr (fun h => by have := (ox.lt _ h).1; omega)
  have gex : ∀ k, x1.ownBlock = some k → w.heap.size ≤ k := fun k hk => Nat.le_trans D4.size (ox.lt k hk).1
  have GX := Lib.hid gex
  have D4b := D4.trans (d4b.mono D4.size)
  have p4b := p4.below d4b
  have th4b := there_below th4 lt4 d4b
  have lt4b := Nat.lt_of_lt_of_le lt4 d4b.size
  have rx := ints_own ox hzz'.out
  clear o34 p4 th4 lt4 D4 d4b gex
  go_wp2_with fail
  refine (ci'.out _ _ _ p4b rx).mono ?_
  rintro e u5 ⟨v5, rfl, o5, d5⟩
  have o35 := own_kept o34b d5
  have ox5 := own_kept ox d5
  have ap35 := own_apart o34b o5
  have ap5g := own_apart2 ox o5
  have ap5x : v5.ownBlock = none ∨ v5.ownBlock ≠ some u3.heap.size := Or.inr (fun h => by have := (o5.lt _ h).1; omega)
  have ge5 : ∀ k, v5.ownBlock = some k → w.heap.size ≤ k := fun k hk => Nat.le_trans D4b.size (o5.lt k hk).1
  have G5 := Lib.hid ge5
  have D5 := D4b.trans (d5.mono D4b.size)
  have p5 := p4b.below d5
  have th5 := there_below th4b lt4b d5
  have lt5 := Nat.lt_of_lt_of_le lt4b d5.size
  have r5 := Lib.hid (ints_own o5 hin'.out)
  have r3 := Lib.hid (ints_own o35 hin'.out)
  clear D4b o34b ge5 p4b th4b lt4b rx ox d5
  go_wp2_with fail
  refine (eqInt64S_any v5 v3 LL _ (by omega) r5.out r3.out).mono ?_
  rintro e _ ⟨rfl, m1, rfl⟩
  clear r5 r3
  go_wp2_with fail
  refine (toRibS_any a0 Z _ hlen'.out (hZ'.out.below (belowN D5 m1))).mono ?_
  rintro e u6 ⟨v6, rfl, p6, d6⟩
  have p56 := (p5.below (belowN (Below.refl _ _) m1)).below d6
  have o36 := own_kept (w := u5.drewN m1) o35 d6
  have o56 := own_kept (w := u5.drewN m1) o5 d6
  have ox6 := own_kept (w := u5.drewN m1) ox5 d6
  have th6 := there_below (w := u5.drewN m1) th5 lt5 d6
  have lt6 : u3.heap.size < u6.heap.size := Nat.lt_of_lt_of_le lt5 d6.size
  have D6 := (belowN D5 m1).trans (d6.mono (belowN D5 m1).size)
  clear d6 D5 p5 o35 o5 ox5 th5 lt5
  go_wp2_with fail
  refine (eqRibS_any _ v6 Z _ hlen'.out p56 p6).mono ?_
  rintro e u7 ⟨rfl, d7⟩
  have th7 := there_below th6 lt6 d7
  have lt7 := Nat.lt_of_lt_of_le lt6 d7.size
  have o37 := own_kept o36 d7
  have o57 := own_kept o56 d7
  have ox7 := own_kept ox6 d7
  have D7 := D6.trans (d7.mono D6.size)
  clear d7 D6 p56 p6 o36 o56 ox6 th6 lt6
  go_wp2_with fail
  refine (toInt64S_any _ G _ hG1 (hG'.out.below D7)).mono ?_
  rintro e u7b ⟨v7b, rfl, o7b, d7b⟩
  have th8 := there_below th7 lt7 d7b
  have lt8 := Nat.lt_of_lt_of_le lt7 d7b.size
  have o38 := own_kept o37 d7b
  have o58 := own_kept o57 d7b
  have ox8 := own_kept ox7 d7b
  have D8 := D7.trans (d7b.mono D7.size)
  have rx8 := Lib.hid (ints_own ox8 hzz'.out)
  have r7b := Lib.hid (ints_own o7b hzz'.out)
  clear d7b D7 o37 o57 ox7 th7 lt7 o7b
  go_wp2_with fail
  refine (eqInt64S_any x1 v7b G _ (by omega) rx8.out r7b.out).mono ?_
  rintro e _ ⟨rfl, m2, rfl⟩
  clear rx8 r7b
  have hlen2 := hlen'.out
  go_wp2_with fail
  refine (markRibS_any u3.heap.size Z.length Z.length 1 (u7b.drewN m2) (by omega) (by omega) (by omega) lt8 th8).mono ?_
  rintro e u9 ⟨rfl, g9⟩
  have o39 := o38.kept (w' := u9) ⟨g9.os, g9.tape, g9.output, g9.size, g9.block⟩ ap3x
  have o59 := o58.kept (w' := u9) ⟨g9.os, g9.tape, g9.output, g9.size, g9.block⟩ ap5x
  have ox9 := ox8.kept (w' := u9) ⟨g9.os, g9.tape, g9.output, g9.size, g9.block⟩ apxx
  have D9 := Lib.hid ((belowN D8 m2).grown g9 (belowN D8 m2).size (fun k hk => by cases hk; exact hx3))
  clear o38 o58 ox8 g9 D8 ap3x ap5x apxx hx3 th8 lt8
  go_wp2_with fail
  refine (markInt64S_row x1 (1 + Z.length * 3) _ G u9 (by omega) (by omega) (by omega) ox9).mono ?_
  rintro e u10 ⟨rfl, ox10, g10⟩
  have o310 := o39.kept (w' := u10) ⟨g10.os, g10.tape, g10.output, g10.size, g10.block⟩ ap3g
  have o510 := o59.kept (w' := u10) ⟨g10.os, g10.tape, g10.output, g10.size, g10.block⟩ ap5g
  have D10 := Lib.hid (D9.out.grown g10 D9.out.size GX.out)
  have r5 := Lib.hid (ints_own o510 hin'.out)
  have r3 := Lib.hid (ints_own o310 hin'.out)
  clear o39 o59 ox9 ox10 g10 D9 ap3g ap5g
  go_wp2_with fail
  refine (eqInt64S_any v5 v3 LL _ (by omega) r5.out r3.out).mono ?_
  rintro e _ ⟨rfl, m3, rfl⟩
  clear r5 r3
  go_wp2_with fail
  refine (markInt64S_row v5 1 _ LL (u10.drewN m3) (by omega) (by omega) (by omega) o510).mono ?_
  rintro e u11 ⟨rfl, o511, g11⟩
  have o311 := o310.kept (w' := u11) ⟨g11.os, g11.tape, g11.output, g11.size, g11.block⟩ ap35
  have D11 := Lib.hid ((belowN D10.out m3).grown g11 (belowN D10.out m3).size G5.out)
  clear o310 o510 g11 ap35 D10
  go_wp2_with fail
  refine (heldInt64S_row v5 LL.length 1 _ u11 (by omega) (by omega) (by omega) o511).mono ?_
  rintro e _ ⟨rfl, m4, rfl⟩
  go_wp2_with fail
  refine (toRibS_any a0 Z _ hlen'.out (hZ'.out.below (belowN D11.out m4))).mono ?_
  rintro e u12 ⟨v12, rfl, p12, d12⟩
  have D12 := Lib.hid ((belowN D11.out m4).trans (d12.mono (belowN D11.out m4).size))
  have o512 := own_kept (w := u11.drewN m4) o511 d12
  have o312 := own_kept (w := u11.drewN m4) o311 d12
  clear d12 o511 o311 D11
  go_wp2_with fail
  refine (toInt64S_any _ G _ hG1 (hG'.out.below D12.out)).mono ?_
  rintro e u13 ⟨v13, rfl, o13, d13⟩
  have D13 := Lib.hid (D12.out.trans (d13.mono D12.out.size))
  have o513 := own_kept o512 d13
  have o313 := own_kept o312 d13
  have p13 := p12.below d13
  have r13 := ints_own o13 hzz'.out
  clear d13 o512 o312 D12 p12 o13
  go_wp2_with fail
  refine (ci'.out _ _ _ p13 r13).mono ?_
  rintro e u14 ⟨v14, rfl, o14, d14⟩
  have D14 := Lib.hid (D13.out.trans (d14.mono D13.out.size))
  have o514 := own_kept o513 d14
  have o314 := own_kept o313 d14
  have r14 := Lib.hid (ints_own o14 hin'.out)
  have r3 := Lib.hid (ints_own o314 hin'.out)
  clear d14 o513 o313 D13 o14 p13 r13
  go_wp2_with fail
  refine (eqInt64S_any v14 v3 LL _ (by omega) r14.out r3.out).mono ?_
  rintro e _ ⟨rfl, m5, rfl⟩
  clear r14 r3
  go_wp2_with fail
  refine (heldInt64S_row v5 LL.length 1 _ (u14.drewN m5) (by omega) (by omega) (by omega) o514).mono ?_
  rintro e _ ⟨rfl, m6, rfl⟩
  have W14 := belowN D14.out (m5 + m6)
  clear o514 o314
  go_wp2
  go_ret
  exact ⟨rfl, W14⟩


/-! ### THE ROW's STEP: WRITTEN OUT: LEAVE IT -/
set_option maxRecDepth 100000 in
theorem lifted (os : Os) (started : os.Started) (H : Type) (enc : TypeId × Value → H) :
    ReturnsInHanded {} Try.checked os 9 .any (Rows.fnExactStripsLeftSpec.pre6 enc Try.prog Try.f9 Rows.fnExactStripsLeftRow.domain false) (Rows.fnExactStripsLeftSpec.post enc Try.prog Try.f9 false true false false) := by
  refine returnsInHanded_of_change (C := Try.checked) own started (by kernel_rfl) Try.func9
    (ChangeSpec.witness6 (enc := enc) (C := Try.checked) false ⟨#[], #[.slice none 0 0, .slice none 0 0, .int .i64 0, .int .i64 0], []⟩ 8 (by kernel_rfl) (by kernel_rfl) (by kernel_rfl) (by kernel_rfl)) ?_
  intro W base args ds gs before hval0 hW hcnd _
  have hval : ∀ (j : Nat) t v, Try.f9.params[j]? = some t → args[j]? = some v → Value.okWide Try.prog W .any base t v := hval0
  have hW' := hW
  obtain ⟨p, q, hA0, hV, rfl, hfz, hnd⟩ := hW
  have hA : DataW.TrodAll enc Try.prog W 0 (fun _ => true) true Try.f9.params.toList args.toList ds p := hA0
  rw [Try.params9] at hA hval
  obtain ⟨v0, vs0, d0, ds0, p0, q0, hargs, rfl, rfl, h0, r0⟩ := trodAll_cons hA
  obtain ⟨v1, vs1, d1, ds1, p1, q1, rfl, rfl, rfl, h1, r1⟩ := trodAll_cons r0
  obtain ⟨v2, vs2, d2, ds2, p2, q2, rfl, rfl, rfl, h2, r2⟩ := trodAll_cons r1
  obtain ⟨v3, vs3, d3, ds3, p3, q3, rfl, rfl, rfl, h3, r3⟩ := trodAll_cons r2
  obtain ⟨rfl, rfl, rfl⟩ := trodAll_nil r3
  obtain rfl : args = #[v0, v1, v2, v3] := by cases args; simp_all
  obtain ⟨rfl, rfl⟩ := trodVars_none hV
  have k0 := h0
  have lt0 : ∀ x ∈ p0, x.block < W.heap.size := by obtain ⟨m, hm⟩ := k0; exact DataW.trod_lt m _ _ _ hm
  have w0 : RibsV W v0 := ribs_open (hval 0 22 v0 rfl rfl) h0
  obtain ⟨a1, len1, cap1, rfl⟩ := okWide_slice Try.underlying31 (hval 1 31 v1 rfl rfl)
  have k1 := h1
  have lt1 : ∀ x ∈ p1, x.block < W.heap.size := by obtain ⟨m, hm⟩ := k1; exact DataW.trod_lt m _ _ _ hm
  obtain ⟨z1, w1⟩ : ∃ zs, IsRow .i64 W a1 len1 cap1 zs := by
    obtain ⟨fuel, hf⟩ := h1
    rcases open_ints Try.underlying31 Try.underlying2 (by kernel_rfl) hf with ⟨hcs, _⟩ | ⟨x, l, c, zs, hcs, _, hl, hm, hz, _, hcell, hwz⟩
    · simp [Value.cells] at hcs
      obtain ⟨rfl, rfl, rfl⟩ := hcs
      exact ⟨[], .inl ⟨rfl, rfl, rfl, rfl⟩⟩
    · simp [Value.cells] at hcs
      obtain ⟨rfl, rfl, rfl⟩ := hcs
      exact ⟨zs, .inr ⟨_, rfl, hl, hm, by simpa using hz, hcell, hwz⟩⟩
  obtain ⟨a2, rfl, rfl, rfl, w2⟩ := open_int Try.underlying2 (hval 2 2 v2 rfl rfl) h2
  obtain ⟨a3, rfl, rfl, rfl, w3⟩ := open_int Try.underlying2 (hval 3 2 v3 rfl rfl) h3
  clear hA0 hval0
  refine (walk v0 a1 len1 cap1 z1 a2 a3 W w0 w1 w2 w3).mono fun e W' ⟨he, bel⟩ => ?_
  subst he
  exact ⟨_, rfl, _, _, _, [], _, [], hW', trodAll_mk1 (shut_bool Try.underlying4 _), (trodAll_cons_mk (Below.trod laidOut (by kernel_rfl) (of_decide_eq_true (by kernel_rfl)) k0 bel lt0) (trodAll_cons_mk (Below.trod laidOut (by kernel_rfl) (of_decide_eq_true (by kernel_rfl)) k1 bel lt1) (trodAll_cons_mk (shut_int Try.underlying2 w2) (trodAll_cons_mk (shut_int Try.underlying2 w3) trodAll_mk0)))), rfl, bel.frame _, fun h => by cases h⟩

theorem over : Rows.fnExactStripsLeftRow.holds Try.pinned (OpenSpec.ofChange Rows.fnExactStripsLeftSpec) :=
  OpenClaim.holds_of_wide 9 Try.f9 rfl rfl rfl rfl rfl rfl rfl ⟨rfl, rfl, rfl, rfl, rfl⟩ rfl rfl rfl rfl rfl (by kernel_rfl) Try.func9 (by kernel_rfl)
    (of_decide_eq_true (by kernel_rfl)) (by unfold Func.isWrapper; first | (rw [if_pos (by decide +kernel)]; kernel_rfl) | (rw [if_neg (by decide +kernel)]; exact ⟨rfl, rfl⟩))
    (fun os started H enc _ => lifted os started H enc)

/-- ████ THE STATEMENT ████ -/
theorem proved : Rows.FnExactStripsLeftSaid := over
#print axioms proved
end Go.Proofs.Ytgbjdjkmmmgnnaa.fnExactStripsLeft
