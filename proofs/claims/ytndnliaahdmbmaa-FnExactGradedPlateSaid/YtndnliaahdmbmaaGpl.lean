/-
  Graded plates, by the program.
-/
import Derived.Test.YtndnliaahdmbmaaEdg
import Derived.Test.YtndnliaahdmbmaaNeu
import Derived.Test.YtndnliaahdmbmaaThn
import Derived.Test.YtndnliaahdmbmaaTto
import Derived.Test.YtndnliaahdmbmaaSrw
namespace Go.Proofs.Ytndnliaahdmbmaa
open Go.ChangeShapes Go.WideShapes Go.ChangeAt Go.RowKit Go.Deep
set_option linter.unusedVariables false
set_option linter.unusedSimpArgs false
attribute [local go_sem] Oper.semAt_some
set_option maxRecDepth 1000000
/-- how far the middle is from the edge -/
def gpD (R C : Nat) : Int := (minG (R : Int) (C : Int) - 1) / 2
def gpf (R C : Nat) (e m : Int) (i k : Nat) : Int := lineR 0 e (gpD R C) m (dpV R C i k)
def gpB (r c e m : Int) : Bool := inB r 1 10 && (inB c 1 10 && (inB e 1 200 && inB m 1 200))
def gpV (r c e m : Int) : List (List Int) := if gpB r c e m then gridF r.toNat c.toNat (gpf r.toNat c.toNat e m) else []
def gpC (r c e m : Int) : Int := if gpB r c e m then 0 else 2
theorem lineG_bd {e m D x : Int} (he : 1 ≤ e ∧ e ≤ 200) (hm : 1 ≤ m ∧ m ≤ 200) (hx : x ≤ 10) : -1000000 ≤ lineR 0 e D m x ∧ lineR 0 e D m x ≤ 1000000 := by
  unfold lineR
  split
  · omega
  · split
    · omega
    · split
      · omega
      · have h1 := mul_bd (a := m - e) (b := x - 0) (B := 200) (C := 10) (by omega) (by omega) (by omega) (by omega) (by omega)
        have h2 := rnd_bd ((m - e) * (x - 0)) (D - 0) (by omega)
        omega
theorem gpV_len (r c e m : Int) : (gpV r c e m).length + totL (gpV r c e m) ≤ 1048576 := by
  unfold gpV
  split
  · rename_i hb
    unfold gpB at hb
    simp only [Bool.and_eq_true, inB_iff] at hb
    exact gridF_le (by omega) (by omega) _
  · simp [totL]
theorem isRowCount_any (n : Int) (w : World) : Calls Try.prog 81 #[.int .i64 n] w fun e w' => e = .returned (.bool (inB n 1 10)) ∧ w = w' := by
  go_enter Try.func81, Try.ntmps81
  go_wp2_with (go_at_call 65; refine (within64_any _ _ _ _).mono ?_; rintro e w' ⟨rfl, rfl⟩)
  go_ret
  exact ⟨rfl, rfl⟩
set_option maxHeartbeats 3200000 in
theorem gp1_any (e D m : Int) (he : 1 ≤ e ∧ e ≤ 200) (hm : 1 ≤ m ∧ m ≤ 200) (hD : 0 ≤ D ∧ D ≤ 10) (g o cap R C : Nat) (rg ro rc : Nat → Nat) (h : Nat → Nat → Int) (w : World) (x : GR w g o cap R C rg ro rc h) (i k : Nat) (hi : i < R) (hk : k < C) (be bd bm bg : Nat) (hcl : (w.cell? ⟨be, 0, none⟩ = some (.int .i64 e) ∧ w.cell? ⟨bd, 0, none⟩ = some (.int .i64 D) ∧ w.cell? ⟨bm, 0, none⟩ = some (.int .i64 m) ∧ w.cell? ⟨bg, 0, none⟩ = some (.slice (some ⟨g, o, none⟩) R cap))) : Calls Try.prog 84 #[encP (i, k), .pointer (some ⟨be, 0, none⟩), .pointer (some ⟨bd, 0, none⟩), .pointer (some ⟨bm, 0, none⟩), .pointer (some ⟨bg, 0, none⟩)] w fun e' w' => e' = .returned (.int .i64 (lineR 0 e D m (dpV R C i k))) ∧ Below w.heap.size w w' := by
  have hB : Below w.heap.size w (w.alloc (.cells #[.int .i64 (i : Int), .int .i64 (k : Int)] 71)) := (Below.refl _ _).alloc (Nat.le_refl _) _
  have ks : w.heap.size < (w.alloc (.cells #[.int .i64 (i : Int), .int .i64 (k : Int)] 71)).heap.size := by simp
  have k0 := cellB (heap_alloc_new w (.cells #[.int .i64 (i : Int), .int .i64 (k : Int)] 71)) 0 _ rfl
  have k1 := cellB (heap_alloc_new w (.cells #[.int .i64 (i : Int), .int .i64 (k : Int)] 71)) 1 _ rfl
  have l1 := World.block_lt_of_cell? w _ hcl.1
  have l2 := World.block_lt_of_cell? w _ hcl.2.1
  have l3 := World.block_lt_of_cell? w _ hcl.2.2.1
  have l4 := World.block_lt_of_cell? w _ hcl.2.2.2
  have q1 := (hB.cell (p := ⟨be, 0, none⟩) l1).trans hcl.1
  have q2 := (hB.cell (p := ⟨bd, 0, none⟩) l2).trans hcl.2.1
  have q3 := (hB.cell (p := ⟨bm, 0, none⟩) l3).trans hcl.2.2.1
  have q4 := (hB.cell (p := ⟨bg, 0, none⟩) l4).trans hcl.2.2.2
  have hs := hB.size
  have cE0 := fun W (hW : Below (w.alloc (.cells #[.int .i64 (i : Int), .int .i64 (k : Int)] 71)).heap.size (w.alloc (.cells #[.int .i64 (i : Int), .int .i64 (k : Int)] 71)) W) => edgeSteps_any g o cap R C rg ro rc h W (x.below (below2 hB hW)) i k hi hk
  have hdb := dpV_bd hi hk
  have hi10 := x.R10
  obtain ⟨dv, hdv⟩ : ∃ dv, dv = dpV R C i k := ⟨_, rfl⟩
  rw [← hdv] at cE0 hdb ⊢
  have cL : Hid (∀ W, Calls Try.prog 85 #[.int .i64 0, .int .i64 e, .int .i64 D, .int .i64 m, .int .i64 dv] W fun e' w' => e' = .returned (.int .i64 (lineR 0 e D m dv)) ∧ Below W.heap.size W w') := Lib.hid (fun W => (onLine_any 0 e D m dv (by omega) (by omega) (by omega) (by omega) (by omega) (by omega) (by omega) (by omega) W).mono (fun e' w' ⟨a, n, b⟩ => ⟨a, b ▸ belowN (Below.refl _ _) n⟩))
  have hB' := Lib.hid hB
  unfold encP at cE0 ⊢
  dsimp only at cE0 ⊢
  go_enter Try.func84, Try.ntmps84
  go_wp2_with fail
  generalize (w.alloc (.cells #[.int .i64 (i : Int), .int .i64 (k : Int)] 71)) = W0 at ks k0 k1 q1 q2 q3 q4 hs cE0 hB' ⊢
  have cE := Lib.hid cE0
  have open0 : Hid (∀ w', Below W0.heap.size W0 w' → w'.cell? ⟨be, 0, none⟩ = some (.int .i64 e) ∧ w'.cell? ⟨bd, 0, none⟩ = some (.int .i64 D) ∧ w'.cell? ⟨bm, 0, none⟩ = some (.int .i64 m) ∧ w'.cell? ⟨bg, 0, none⟩ = some (.slice (some ⟨g, o, none⟩) R cap) ∧ w'.cell? ⟨w.heap.size, 0, none⟩ = some (.int .i64 (i : Int)) ∧ w'.cell? ⟨w.heap.size, 1, none⟩ = some (.int .i64 (k : Int))) := Lib.hid (fun w' hw' => ⟨(hw'.cell (p := ⟨be, 0, none⟩) (Nat.lt_of_lt_of_le l1 hs)).trans q1, (hw'.cell (p := ⟨bd, 0, none⟩) (Nat.lt_of_lt_of_le l2 hs)).trans q2, (hw'.cell (p := ⟨bm, 0, none⟩) (Nat.lt_of_lt_of_le l3 hs)).trans q3, (hw'.cell (p := ⟨bg, 0, none⟩) (Nat.lt_of_lt_of_le l4 hs)).trans q4, (hw'.cell (p := ⟨w.heap.size, 0, none⟩) ks).trans k0, (hw'.cell (p := ⟨w.heap.size, 1, none⟩) ks).trans k1⟩)
  clear q1 q2 q3 q4 k0 k1 ks cE0 hcl x hB hs l1 l2 l3 l4 hdv
  refine wp_calm 8 (fun w' => Below W0.heap.size W0 w') (by kernel_rfl) (by kernel_rfl) (by kernel_rfl) (by kernel_rfl) (belowN (Below.refl _ _) 1) ?_
  simp only [List.take_succ_cons, List.take_zero, List.drop_succ_cons, List.drop_zero]
  refine calm_take (v := ?vy43) (by rfl) ?ey43 ?ry43
  case ey43 => (intro w' hw'; obtain ⟨d0, d1, d2, d3, d4, d5⟩ := open0.out w' hw'; go_simp; try with_reducible rfl)
  try simp only [Act.put, List.setIfInBounds_toArray, List.set_cons_zero, List.set_cons_succ]
  refine calm_take (v := ?vy44) (by rfl) ?ey44 ?ry44
  case ey44 => (intro w' hw'; obtain ⟨d0, d1, d2, d3, d4, d5⟩ := open0.out w' hw'; go_simp; try with_reducible rfl)
  try simp only [Act.put, List.setIfInBounds_toArray, List.set_cons_zero, List.set_cons_succ]
  refine calm_take (v := ?vy45) (by rfl) ?ey45 ?ry45
  case ey45 => (intro w' hw'; obtain ⟨d0, d1, d2, d3, d4, d5⟩ := open0.out w' hw'; go_simp; try with_reducible rfl)
  try simp only [Act.put, List.setIfInBounds_toArray, List.set_cons_zero, List.set_cons_succ]
  refine calm_take (v := ?vy46) (by rfl) ?ey46 ?ry46
  case ey46 => (intro w' hw'; obtain ⟨d0, d1, d2, d3, d4, d5⟩ := open0.out w' hw'; go_simp; try with_reducible rfl)
  try simp only [Act.put, List.setIfInBounds_toArray, List.set_cons_zero, List.set_cons_succ]
  refine calm_take (v := ?vy47) (by rfl) ?ey47 ?ry47
  case ey47 => (intro w' hw'; obtain ⟨d0, d1, d2, d3, d4, d5⟩ := open0.out w' hw'; go_simp; try with_reducible rfl)
  try simp only [Act.put, List.setIfInBounds_toArray, List.set_cons_zero, List.set_cons_succ]
  refine calm_call (v := .int .i64 dv) (f := ?fy48) (args := ?ay48) (by rfl) ?ey48 ?cy48 ?ry48
  case ey48 => (intro w' hw'; obtain ⟨d0, d1, d2, d3, d4, d5⟩ := open0.out w' hw'; go_simp; first | (with_reducible rfl) | (refine ⟨?_, ?_⟩ <;> with_reducible rfl))
  case cy48 => (intro w' hw'; with_reducible exact calm_ret hw' (cE.out w' hw'))
  try simp only [Act.put, List.setIfInBounds_toArray, List.set_cons_zero, List.set_cons_succ]
  refine calm_call (v := .int .i64 (lineR 0 e D m dv)) (f := ?fy49) (args := ?ay49) (by rfl) ?ey49 ?cy49 ?ry49
  case ey49 => (intro w' hw'; obtain ⟨d0, d1, d2, d3, d4, d5⟩ := open0.out w' hw'; go_simp; first | (with_reducible rfl) | (refine ⟨?_, ?_⟩ <;> with_reducible rfl))
  case cy49 => (intro w' hw'; with_reducible exact calm_ret hw' (cL.out w'))
  try simp only [Act.put, List.setIfInBounds_toArray, List.set_cons_zero, List.set_cons_succ]
  refine calm_take (v := ?vy50) (by rfl) ?ey50 ?ry50
  case ey50 => (intro w' hw'; obtain ⟨d0, d1, d2, d3, d4, d5⟩ := open0.out w' hw'; go_simp; try with_reducible rfl)
  try simp only [Act.put, List.setIfInBounds_toArray, List.set_cons_zero, List.set_cons_succ]
  refine wpQuiet_nil (fun w' hw' => ?_)
  go_wp2
  go_ret
  exact ⟨rfl, below2 hB'.out hw'⟩
set_option maxHeartbeats 6400000 in
theorem implGradedPlate_any (r c e m : Int) (w : World) : Calls Try.prog 42 #[.int .i64 r, .int .i64 c, .int .i64 e, .int .i64 m] w (GridRet (gpV r c e m) (gpC r c e m) w) := by
  cases h1 : inB r 1 10
  · have e1 : Hid (gpV r c e m = []) := Lib.hid (by unfold gpV gpB; rw [h1]; rfl)
    have e2 : Hid (2 = gpC r c e m) := Lib.hid (by unfold gpC gpB; rw [h1]; rfl)
    have hBe : Below w.heap.size w ((w.alloc (.cells #[.int .i64 e] 2)).alloc (.cells #[.int .i64 m] 2)) := ((Below.refl _ _).alloc (Nat.le_refl _) _).alloc (by simp) _
    go_enter Try.func42, Try.ntmps42
    go_wp2_with (first | (go_at_call 81; refine (isRowCount_any _ _).mono ?_; rw [h1]; rintro e' w' ⟨rfl, rfl⟩) | (go_at_call 51; refine (isPlateThick_any _ _).mono ?_; rw [h1]; rintro e' w' ⟨rfl, rfl⟩))
    go_ret2
    exact gridRet_nil e1.out e2.out.symm hBe
  cases h2 : inB c 1 10
  · have e1 : Hid (gpV r c e m = []) := Lib.hid (by unfold gpV gpB; rw [h1, h2]; rfl)
    have e2 : Hid (2 = gpC r c e m) := Lib.hid (by unfold gpC gpB; rw [h1, h2]; rfl)
    have hBe : Below w.heap.size w ((w.alloc (.cells #[.int .i64 e] 2)).alloc (.cells #[.int .i64 m] 2)) := ((Below.refl _ _).alloc (Nat.le_refl _) _).alloc (by simp) _
    go_enter Try.func42, Try.ntmps42
    go_wp2_with (first | (go_at_call 81; refine (isRowCount_any _ _).mono ?_; rw [h1]; rintro e' w' ⟨rfl, rfl⟩) | (go_at_call 51; refine (isPlateThick_any _ _).mono ?_; rw [h1]; rintro e' w' ⟨rfl, rfl⟩) | (go_at_call 81; refine (isRowCount_any _ _).mono ?_; rw [h2]; rintro e' w' ⟨rfl, rfl⟩) | (go_at_call 51; refine (isPlateThick_any _ _).mono ?_; rw [h2]; rintro e' w' ⟨rfl, rfl⟩))
    go_ret2
    exact gridRet_nil e1.out e2.out.symm hBe
  cases h3 : inB e 1 200
  · have e1 : Hid (gpV r c e m = []) := Lib.hid (by unfold gpV gpB; rw [h1, h2, h3]; rfl)
    have e2 : Hid (2 = gpC r c e m) := Lib.hid (by unfold gpC gpB; rw [h1, h2, h3]; rfl)
    have hBe : Below w.heap.size w ((w.alloc (.cells #[.int .i64 e] 2)).alloc (.cells #[.int .i64 m] 2)) := ((Below.refl _ _).alloc (Nat.le_refl _) _).alloc (by simp) _
    go_enter Try.func42, Try.ntmps42
    go_wp2_with (first | (go_at_call 81; refine (isRowCount_any _ _).mono ?_; rw [h1]; rintro e' w' ⟨rfl, rfl⟩) | (go_at_call 51; refine (isPlateThick_any _ _).mono ?_; rw [h1]; rintro e' w' ⟨rfl, rfl⟩) | (go_at_call 81; refine (isRowCount_any _ _).mono ?_; rw [h2]; rintro e' w' ⟨rfl, rfl⟩) | (go_at_call 51; refine (isPlateThick_any _ _).mono ?_; rw [h2]; rintro e' w' ⟨rfl, rfl⟩) | (go_at_call 81; refine (isRowCount_any _ _).mono ?_; rw [h3]; rintro e' w' ⟨rfl, rfl⟩) | (go_at_call 51; refine (isPlateThick_any _ _).mono ?_; rw [h3]; rintro e' w' ⟨rfl, rfl⟩))
    go_ret2
    exact gridRet_nil e1.out e2.out.symm hBe
  cases h4 : inB m 1 200
  · have e1 : Hid (gpV r c e m = []) := Lib.hid (by unfold gpV gpB; rw [h1, h2, h3, h4]; rfl)
    have e2 : Hid (2 = gpC r c e m) := Lib.hid (by unfold gpC gpB; rw [h1, h2, h3, h4]; rfl)
    have hBe : Below w.heap.size w ((w.alloc (.cells #[.int .i64 e] 2)).alloc (.cells #[.int .i64 m] 2)) := ((Below.refl _ _).alloc (Nat.le_refl _) _).alloc (by simp) _
    go_enter Try.func42, Try.ntmps42
    go_wp2_with (first | (go_at_call 81; refine (isRowCount_any _ _).mono ?_; rw [h1]; rintro e' w' ⟨rfl, rfl⟩) | (go_at_call 51; refine (isPlateThick_any _ _).mono ?_; rw [h1]; rintro e' w' ⟨rfl, rfl⟩) | (go_at_call 81; refine (isRowCount_any _ _).mono ?_; rw [h2]; rintro e' w' ⟨rfl, rfl⟩) | (go_at_call 51; refine (isPlateThick_any _ _).mono ?_; rw [h2]; rintro e' w' ⟨rfl, rfl⟩) | (go_at_call 81; refine (isRowCount_any _ _).mono ?_; rw [h3]; rintro e' w' ⟨rfl, rfl⟩) | (go_at_call 51; refine (isPlateThick_any _ _).mono ?_; rw [h3]; rintro e' w' ⟨rfl, rfl⟩) | (go_at_call 81; refine (isRowCount_any _ _).mono ?_; rw [h4]; rintro e' w' ⟨rfl, rfl⟩) | (go_at_call 51; refine (isPlateThick_any _ _).mono ?_; rw [h4]; rintro e' w' ⟨rfl, rfl⟩))
    go_ret2
    exact gridRet_nil e1.out e2.out.symm hBe
  have b1 := inB_iff.1 h1
  have b2 := inB_iff.1 h2
  have b3 := inB_iff.1 h3
  have b4 := inB_iff.1 h4
  obtain ⟨R, rfl⟩ : ∃ R : Nat, r = R := ⟨r.toNat, by omega⟩
  obtain ⟨C, rfl⟩ : ∃ C : Nat, c = C := ⟨c.toNat, by omega⟩
  have hR1 : 1 ≤ R := by omega
  have hR2 : R ≤ 10 := by omega
  have hC1 : 1 ≤ C := by omega
  have hC2 : C ≤ 10 := by omega
  have e1 : Hid (gpV (R : Int) (C : Int) e m = gridF R C (gpf R C e m)) := Lib.hid (by unfold gpV gpB; rw [h1, h2, h3, h4]; rfl)
  have e2 : Hid (0 = gpC (R : Int) (C : Int) e m) := Lib.hid (by unfold gpC gpB; rw [h1, h2, h3, h4]; rfl)
  have cN0 := fun W => newGrid_any (gridF R C (fun _ _ => 0)) C W (by rw [gridF_len]; exact hR2) hC2 (fun k hk => by rw [gridF_row]; simp [List.map_const'])
  rw [gridF_len] at cN0
  have cN := Lib.hid cN0
  clear cN0
  have hD0 : gpD R C = (minG (R : Int) (C : Int) - 1) / 2 := rfl
  obtain ⟨D, hD⟩ : ∃ D, D = gpD R C := ⟨_, rfl⟩
  rw [← hD] at hD0
  have hDb : 0 ≤ D ∧ D ≤ 10 := by unfold minG at hD0; omega
  have hfb : Hid (∀ i k, i < R → k < C → inI (gpf R C e m i k)) := Lib.hid (fun i k hi hk => by
    have := lineG_bd (D := gpD R C) b3 b4 (show dpV R C i k ≤ 10 by have := (dpV_bd hi hk).2; omega)
    unfold gpf inI; omega)
  have hD' := Lib.hid hD
  have hDm : Hid ((min (R : Int) (C : Int) - 1) / 2 = D) := Lib.hid (by rw [hD0]; unfold minG; omega)
  clear hD hD0
  go_enter Try.func42, Try.ntmps42
  go_wp2_with (first | (go_at_call 81; refine (isRowCount_any _ _).mono ?_; rw [h1]; rintro e' w' ⟨rfl, rfl⟩) | (go_at_call 51; refine (isPlateThick_any _ _).mono ?_; rw [h1]; rintro e' w' ⟨rfl, rfl⟩) | (go_at_call 81; refine (isRowCount_any _ _).mono ?_; rw [h2]; rintro e' w' ⟨rfl, rfl⟩) | (go_at_call 51; refine (isPlateThick_any _ _).mono ?_; rw [h2]; rintro e' w' ⟨rfl, rfl⟩) | (go_at_call 81; refine (isRowCount_any _ _).mono ?_; rw [h3]; rintro e' w' ⟨rfl, rfl⟩) | (go_at_call 51; refine (isPlateThick_any _ _).mono ?_; rw [h3]; rintro e' w' ⟨rfl, rfl⟩) | (go_at_call 81; refine (isRowCount_any _ _).mono ?_; rw [h4]; rintro e' w' ⟨rfl, rfl⟩) | (go_at_call 51; refine (isPlateThick_any _ _).mono ?_; rw [h4]; rintro e' w' ⟨rfl, rfl⟩))
  obtain ⟨q1, q2, hB0, hsz⟩ := two_boxP w #[.int .i64 e] 2 #[.int .i64 m] 2
  generalize ((w.alloc (.cells #[.int .i64 e] 2)).alloc (.cells #[.int .i64 m] 2)) = W0 at q1 q2 hB0 hsz ⊢
  have ce := q1 0 _ rfl
  have cm := q2 0 _ rfl
  clear q1 q2
  refine (cN.out W0).mono ?_
  rintro e' w1 ⟨v, vs, rfl, O1, b1'⟩
  obtain ⟨g, o, cap, rg, ro, rc, rfl, x⟩ := grid_GR O1.at (okG_gridF (f := fun _ _ => (0 : Int)) hR1 hR2 hC1 hC2 (fun _ _ _ _ => by omega) (fun _ _ _ _ => by omega))
  rw [gridF_len, colsG_gridF hR1] at x
  rw [gridF_len]
  have hlt1 : w.heap.size + 1 < w1.heap.size := Nat.lt_of_lt_of_le hsz b1'.size
  replace ce := (b1'.cell (p := ⟨w.heap.size, 0, none⟩) (by show w.heap.size < _; omega)).trans ce
  replace cm := (b1'.cell (p := ⟨w.heap.size + 1, 0, none⟩) hsz).trans cm
  have B1 := below2 hB0 b1'
  clear O1 b1' hB0 hsz cN
  go_wp2_with fail
  rw [hDm.out]
  obtain ⟨q1, q2, hB2, hsz2⟩ := two_boxP w1 #[.slice (some ⟨g, o, none⟩) R cap] 76 #[.int .i64 D] 2
  generalize ((w1.alloc (.cells #[.slice (some ⟨g, o, none⟩) R cap] 76)).alloc (.cells #[.int .i64 D] 2)) = W3 at q1 q2 hB2 hsz2 ⊢
  have cg := q1 0 _ rfl
  have cd := q2 0 _ rfl
  clear q1 q2
  replace ce := (hB2.cell (p := ⟨w.heap.size, 0, none⟩) (by show w.heap.size < _; omega)).trans ce
  replace cm := (hB2.cell (p := ⟨w.heap.size + 1, 0, none⟩) hlt1).trans cm
  have x3 := x.below hB2
  have B3 := below2 B1 hB2
  have cH := Lib.hid (heightsOver_told g o cap R C rg ro rc _ W3 x3 (.func (.func 84) #[] #[.pointer (some ⟨w.heap.size, 0, none⟩), .pointer (some ⟨w1.heap.size + 1, 0, none⟩), .pointer (some ⟨w.heap.size + 1, 0, none⟩), .pointer (some ⟨w1.heap.size, 0, none⟩)]) (gpf R C e m) hfb.out (fun W hW i k hi hk => told_at 84 _ (gpf R C e m i k) i k W (enters_of Try.func84 (by kernel_rfl) rfl) (fun W2 hW2 => by
    have hA := hW.trans (hW2.mono hW.size)
    have := gp1_any e D m b3 b4 hDb g o cap R C rg ro rc _ W2 (x3.below hA) i k hi hk w.heap.size (w1.heap.size + 1) (w.heap.size + 1) w1.heap.size ⟨(hA.cell (p := ⟨w.heap.size, 0, none⟩) (World.block_lt_of_cell? W3 _ ce)).trans ce, (hA.cell (p := ⟨w1.heap.size + 1, 0, none⟩) (World.block_lt_of_cell? W3 _ cd)).trans cd, (hA.cell (p := ⟨w.heap.size + 1, 0, none⟩) (World.block_lt_of_cell? W3 _ cm)).trans cm, (hA.cell (p := ⟨w1.heap.size, 0, none⟩) (World.block_lt_of_cell? W3 _ cg)).trans cg⟩
    rw [hD'.out] at this
    exact this)))
  refine cH.out.mono ?_
  rintro e' w4 ⟨v4, vs4, rfl, O4, b4'⟩
  have B4 := below2 B3 b4'
  clear cH x x3
  go_wp2
  go_ret2
  exact gridRet_mk e1.out e2.out.symm O4 B3.size B4
end Go.Proofs.Ytndnliaahdmbmaa
