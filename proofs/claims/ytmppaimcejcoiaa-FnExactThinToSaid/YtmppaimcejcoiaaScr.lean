/-
  Scraped plates, by the program.
-/
import Derived.Test.YtmppaimcejcoiaaTold
namespace Go.Proofs.Ytmppaimcejcoiaa
open Go.ChangeShapes Go.WideShapes Go.ChangeAt Go.RowKit Go.Deep
set_option linter.unusedVariables false
set_option linter.unusedSimpArgs false
attribute [local go_sem] Oper.semAt_some
/-- a cell of the thickness z behind a scraping by b down to l -/
def tnV (b l z : Int) : Int := if z ≤ l then z else if z - b < l then l else z - b
def byB (b l : Int) : Bool := inB b 0 200 && inB l 1 200
theorem byB_bd {b l : Int} (h : byB b l = true) : (0 ≤ b ∧ b ≤ 200) ∧ (1 ≤ l ∧ l ≤ 200) := by
  unfold byB at h; rw [Bool.and_eq_true, inB_iff, inB_iff] at h; exact h
theorem tnV_bd {b l z : Int} (hb : 0 ≤ b ∧ b ≤ 200) (hl : 1 ≤ l ∧ l ≤ 200) (h0 : 0 ≤ z) (h1 : z ≤ 1000) : 0 ≤ tnV b l z ∧ tnV b l z ≤ 1000 := by
  unfold tnV; split
  · omega
  · split <;> omega
theorem thinned_any (b l z : Int) (hb : 0 ≤ b ∧ b ≤ 200) (hl : 1 ≤ l ∧ l ≤ 200) (h0 : 0 ≤ z) (h1 : z ≤ 1000) (w : World) : Calls Try.prog 57 #[.agg #[.int .i64 b, .int .i64 l], .int .i64 z] w fun e w' => e = .returned (.int .i64 (tnV b l z)) ∧ Below w.heap.size w w' := by
  have ew : IntKind.i64.wrap (z - b) = z - b := IntWalk.i64_in _ (by omega)
  have hV : Hid (tnV b l z = if z ≤ l then z else if z - b < l then l else z - b) := Lib.hid rfl
  rcases Int.lt_trichotomy z l with hc | hc | hc
  · by_cases h0b : b = 0
    · have hr : Hid (tnV b l z = z - b) := Lib.hid (by rw [hV.out, if_pos (by omega)]; omega)
      have hlt : ¬ z - b < z := by omega
      clear h0b
      go_enter Try.func57, Try.ntmps57
      go_wp2
      all_goals go_ret
      all_goals exact ⟨ret_int (by rw [hr.out]; try omega), (Below.refl _ _).alloc (Nat.le_refl _) _⟩
    · have hr : Hid (tnV b l z = z) := Lib.hid (by rw [hV.out, if_pos (by omega)])
      have hlt : z - b < z := by omega
      go_enter Try.func57, Try.ntmps57
      go_wp2
      all_goals go_ret
      all_goals exact ⟨ret_int (by rw [hr.out]; try omega), (Below.refl _ _).alloc (Nat.le_refl _) _⟩
  · subst hc
    have hr : Hid (tnV b z z = z) := Lib.hid (by rw [hV.out, if_pos (Int.le_refl _)])
    by_cases h0b : b = 0
    · have hlt : ¬ z - b < z := by omega
      clear h0b
      go_enter Try.func57, Try.ntmps57
      go_wp2
      all_goals go_ret
      all_goals exact ⟨ret_int (by rw [hr.out]; try omega), (Below.refl _ _).alloc (Nat.le_refl _) _⟩
    · have hlt : z - b < z := by omega
      go_enter Try.func57, Try.ntmps57
      go_wp2
      all_goals go_ret
      all_goals exact ⟨ret_int (by rw [hr.out]; try omega), (Below.refl _ _).alloc (Nat.le_refl _) _⟩
  · by_cases hd : z - b < l
    · have hr : Hid (tnV b l z = l) := Lib.hid (by rw [hV.out, if_neg (by omega), if_pos hd])
      go_enter Try.func57, Try.ntmps57
      go_wp2
      all_goals go_ret
      all_goals exact ⟨ret_int (by rw [hr.out]; try omega), (Below.refl _ _).alloc (Nat.le_refl _) _⟩
    · have hr : Hid (tnV b l z = z - b) := Lib.hid (by rw [hV.out, if_neg (by omega), if_neg hd])
      go_enter Try.func57, Try.ntmps57
      go_wp2
      all_goals go_ret
      all_goals exact ⟨ret_int (by rw [hr.out]; try omega), (Below.refl _ _).alloc (Nat.le_refl _) _⟩
theorem isScrape_any (b l : Int) (w : World) : Calls Try.prog 40 #[.agg #[.int .i64 b, .int .i64 l]] w fun e w' => e = .returned (.bool (byB b l)) ∧ Below w.heap.size w w' := by
  have hx : Hid (byB b l = (inB b 0 200 && inB l 1 200)) := Lib.hid rfl
  cases h1 : inB b 0 200 <;> cases h2 : inB l 1 200
  all_goals
    go_enter Try.func40, Try.ntmps40
    go_wp2_with (first
      | (go_at_call 29; refine (within64_any _ _ _ _).mono ?_; rintro e w' ⟨rfl, rfl⟩)
      | (go_at_call 30; refine (isPlateThick_any _ _).mono ?_; rintro e w' ⟨rfl, rfl⟩))
    go_ret
    exact ⟨ret_bool (by rw [hx.out, h1, h2]; rfl), (Below.refl _ _).alloc (Nat.le_refl _) _⟩
set_option maxHeartbeats 3200000 in
theorem behind1_any (b l : Int) (hb : 0 ≤ b ∧ b ≤ 200) (hl : 1 ≤ l ∧ l ≤ 200) (q : Nat) (caps : Array Value) (wb : Nat → Nat → Bool) (eq' : ∀ args w, (callFunc q args).run Try.prog w = .ok (.enter q args) w) (bw bs bp g o cap R C : Nat) (rg ro rc : Nat → Nat) (h : Nat → Nat → Int) (w : World) (x : GR w g o cap R C rg ro rc h) (i k : Nat) (hi : i < R) (hk : k < C) (h1 : w.cell? ⟨bw, 0, none⟩ = some (.func (.func q) #[] caps)) (h2 : w.cell? ⟨bs, 0, none⟩ = some (.int .i64 b)) (h3 : w.cell? ⟨bs, 1, none⟩ = some (.int .i64 l)) (h4 : w.cell? ⟨bp, 0, none⟩ = some (.slice (some ⟨g, o, none⟩) R cap))
    (cQ0 : ∀ W, Below w.heap.size w W → Calls Try.prog q (#[encP (i, k)] ++ caps) W fun e w' => e = .returned (.bool (wb i k)) ∧ Below W.heap.size W w') :
    Calls Try.prog 56 #[encP (i, k), .pointer (some ⟨bw, 0, none⟩), .pointer (some ⟨bs, 0, none⟩), .pointer (some ⟨bp, 0, none⟩)] w fun e w' => e = .returned (.int .i64 (if wb i k then tnV b l (h i k) else h i k)) ∧ Below w.heap.size w w' := by
  have hx := Lib.hid x
  have cQ := Lib.hid cQ0
  have z0 := x.h0 i k hi hk
  have z1 := x.h1 i k hi hk
  obtain ⟨z, hze0⟩ : ∃ z, z = h i k := ⟨_, rfl⟩
  rw [← hze0] at z0 z1 ⊢
  have hze := Lib.hid hze0
  clear x cQ0 hze0
  unfold encP at cQ ⊢
  dsimp only at cQ ⊢
  cases hwb : wb i k <;> rw [hwb] at cQ
  · rw [if_neg (by decide)]
    have hB0 : Below w.heap.size w (w.alloc (.cells #[.int .i64 (i : Int), .int .i64 (k : Int)] 57)) := (Below.refl _ _).alloc (Nat.le_refl _) _
    have p0 := cellB (heap_alloc_new w (.cells #[.int .i64 (i : Int), .int .i64 (k : Int)] 57)) 0 _ rfl
    have p1 := cellB (heap_alloc_new w (.cells #[.int .i64 (i : Int), .int .i64 (k : Int)] 57)) 1 _ rfl
    have pl : w.heap.size < (w.alloc (.cells #[.int .i64 (i : Int), .int .i64 (k : Int)] 57)).heap.size := by simp
    replace h1 := (hB0.cell (p := ⟨bw, 0, none⟩) (World.block_lt_of_cell? w _ h1)).trans h1
    replace h2 := (hB0.cell (p := ⟨bs, 0, none⟩) (World.block_lt_of_cell? w _ h2)).trans h2
    replace h3 := (hB0.cell (p := ⟨bs, 1, none⟩) (World.block_lt_of_cell? w _ h3)).trans h3
    replace h4 := (hB0.cell (p := ⟨bp, 0, none⟩) (World.block_lt_of_cell? w _ h4)).trans h4
    have hB0' := Lib.hid hB0
    have cQ1 := Lib.hid (cQ.out _ hB0)
    clear hB0
    go_enter Try.func56, Try.ntmps56
    go_wp2_with fail
    refine cQ1.out.mono ?_
    rintro e w1 ⟨rfl, b1⟩
    have k0 := (b1.cell (p := ⟨w.heap.size, 0, none⟩) pl).trans p0
    have k1 := (b1.cell (p := ⟨w.heap.size, 1, none⟩) pl).trans p1
    have k3 := (b1.cell (p := ⟨bs, 0, none⟩) (World.block_lt_of_cell? _ _ h2)).trans h2
    have k4 := (b1.cell (p := ⟨bs, 1, none⟩) (World.block_lt_of_cell? _ _ h3)).trans h3
    have k5 := (b1.cell (p := ⟨bp, 0, none⟩) (World.block_lt_of_cell? _ _ h4)).trans h4
    have B1 := Lib.hid (below2 (w := w) hB0'.out b1)
    have hz := Lib.hid (hx.out.below B1.out)
    have cA0 := fun w' (hw' : Below w1.heap.size w1 w') => at_any g o cap R C rg ro rc h w' (hz.out.below hw') i k hi hk
    unfold encP at cA0
    dsimp only at cA0
    rw [← hze.out] at cA0
    have cA := Lib.hid cA0
    clear cA0 h1 h2 h3 h4 p0 p1 b1 cQ1
    go_wp2_with (go_at_call 50; (with_reducible refine (cA.out _ (Below.refl _ _)).mono ?_); rintro e w2 ⟨rfl, b2⟩)
    go_ret
    exact ⟨rfl, below2 B1.out b2⟩
  · rw [if_pos rfl]
    have cT := Lib.hid (fun w' => thinned_any b l z hb hl z0 z1 w')
    obtain ⟨y, hy⟩ : ∃ y, y = tnV b l z := ⟨_, rfl⟩
    rw [← hy] at cT ⊢
    clear hy z0 z1
    have hB0 : Below w.heap.size w (w.alloc (.cells #[.int .i64 (i : Int), .int .i64 (k : Int)] 57)) := (Below.refl _ _).alloc (Nat.le_refl _) _
    have p0 := cellB (heap_alloc_new w (.cells #[.int .i64 (i : Int), .int .i64 (k : Int)] 57)) 0 _ rfl
    have p1 := cellB (heap_alloc_new w (.cells #[.int .i64 (i : Int), .int .i64 (k : Int)] 57)) 1 _ rfl
    have pl : w.heap.size < (w.alloc (.cells #[.int .i64 (i : Int), .int .i64 (k : Int)] 57)).heap.size := by simp
    replace h1 := (hB0.cell (p := ⟨bw, 0, none⟩) (World.block_lt_of_cell? w _ h1)).trans h1
    replace h2 := (hB0.cell (p := ⟨bs, 0, none⟩) (World.block_lt_of_cell? w _ h2)).trans h2
    replace h3 := (hB0.cell (p := ⟨bs, 1, none⟩) (World.block_lt_of_cell? w _ h3)).trans h3
    replace h4 := (hB0.cell (p := ⟨bp, 0, none⟩) (World.block_lt_of_cell? w _ h4)).trans h4
    have hB0' := Lib.hid hB0
    have cQ1 := Lib.hid (cQ.out _ hB0)
    clear hB0
    go_enter Try.func56, Try.ntmps56
    go_wp2_with fail
    refine cQ1.out.mono ?_
    rintro e w1 ⟨rfl, b1⟩
    have k0 := (b1.cell (p := ⟨w.heap.size, 0, none⟩) pl).trans p0
    have k1 := (b1.cell (p := ⟨w.heap.size, 1, none⟩) pl).trans p1
    have k3 := (b1.cell (p := ⟨bs, 0, none⟩) (World.block_lt_of_cell? _ _ h2)).trans h2
    have k4 := (b1.cell (p := ⟨bs, 1, none⟩) (World.block_lt_of_cell? _ _ h3)).trans h3
    have k5 := (b1.cell (p := ⟨bp, 0, none⟩) (World.block_lt_of_cell? _ _ h4)).trans h4
    have B1 := Lib.hid (below2 (w := w) hB0'.out b1)
    have hz := Lib.hid (hx.out.below B1.out)
    have cA0 := fun w' (hw' : Below w1.heap.size w1 w') => at_any g o cap R C rg ro rc h w' (hz.out.below hw') i k hi hk
    unfold encP at cA0
    dsimp only at cA0
    rw [← hze.out] at cA0
    have cA := Lib.hid cA0
    clear cA0 h1 h2 h3 h4 p0 p1 b1 cQ1
    go_wp2_with fail
    have open0 : Hid (∀ w', Below w1.heap.size w1 w' → w'.cell? ⟨w.heap.size, 0, none⟩ = some (.int .i64 (i : Int)) ∧ w'.cell? ⟨w.heap.size, 1, none⟩ = some (.int .i64 (k : Int)) ∧ w'.cell? ⟨bs, 0, none⟩ = some (.int .i64 b) ∧ w'.cell? ⟨bs, 1, none⟩ = some (.int .i64 l) ∧ w'.cell? ⟨bp, 0, none⟩ = some (.slice (some ⟨g, o, none⟩) R cap)) := Lib.hid (fun w' hw' => ⟨(hw'.cell (World.block_lt_of_cell? w1 _ k0)).trans k0, (hw'.cell (World.block_lt_of_cell? w1 _ k1)).trans k1, (hw'.cell (World.block_lt_of_cell? w1 _ k3)).trans k3, (hw'.cell (World.block_lt_of_cell? w1 _ k4)).trans k4, (hw'.cell (World.block_lt_of_cell? w1 _ k5)).trans k5⟩)
    clear k0 k1 k3 k4 k5
    refine wp_calm 5 (fun w' => Below w1.heap.size w1 w') (by kernel_rfl) (by kernel_rfl) (by kernel_rfl) (by kernel_rfl) (belowN (Below.refl _ _) 1) ?_
    simp only [List.take_succ_cons, List.take_zero, List.drop_succ_cons, List.drop_zero]
    refine calm_take (v := ?vy6) (by rfl) ?ey6 ?ry6
    case ey6 => (intro w' hw'; obtain ⟨c0, c1, c2, c3, c4⟩ := open0.out w' hw'; go_simp; try with_reducible rfl)
    try simp only [Act.put, List.setIfInBounds_toArray, List.set_cons_zero, List.set_cons_succ]
    refine calm_take (v := ?vy7) (by rfl) ?ey7 ?ry7
    case ey7 => (intro w' hw'; obtain ⟨c0, c1, c2, c3, c4⟩ := open0.out w' hw'; go_simp; try with_reducible rfl)
    try simp only [Act.put, List.setIfInBounds_toArray, List.set_cons_zero, List.set_cons_succ]
    refine calm_take (v := ?vy8) (by rfl) ?ey8 ?ry8
    case ey8 => (intro w' hw'; obtain ⟨c0, c1, c2, c3, c4⟩ := open0.out w' hw'; go_simp; try with_reducible rfl)
    try simp only [Act.put, List.setIfInBounds_toArray, List.set_cons_zero, List.set_cons_succ]
    refine calm_call (v := .int .i64 z) (f := ?fy9) (args := ?ay9) (by rfl) ?ey9 ?cy9 ?ry9
    case ey9 => (intro w' hw'; obtain ⟨c0, c1, c2, c3, c4⟩ := open0.out w' hw'; go_simp; first | (with_reducible rfl) | (refine ⟨?_, ?_⟩ <;> with_reducible rfl))
    case cy9 => (intro w' hw'; with_reducible exact calm_ret hw' (cA.out w' hw'))
    try simp only [Act.put, List.setIfInBounds_toArray, List.set_cons_zero, List.set_cons_succ]
    refine calm_call (v := .int .i64 y) (f := ?fy10) (args := ?ay10) (by rfl) ?ey10 ?cy10 ?ry10
    case ey10 => (intro w' hw'; obtain ⟨c0, c1, c2, c3, c4⟩ := open0.out w' hw'; go_simp; first | (with_reducible rfl) | (refine ⟨?_, ?_⟩ <;> with_reducible rfl))
    case cy10 => (intro w' hw'; with_reducible exact calm_ret hw' (cT.out w'))
    try simp only [Act.put, List.setIfInBounds_toArray, List.set_cons_zero, List.set_cons_succ]
    refine wpQuiet_nil (fun w' hw' => ?_)
    go_wp2
    go_ret
    exact ⟨rfl, below2 B1.out hw'⟩
/-- the heights behind a scraping of the cells that are wanted -/
def behF (b l : Int) (wb : Nat → Nat → Bool) (h : Nat → Nat → Int) (i k : Nat) : Int := if wb i k then tnV b l (h i k) else h i k
set_option maxHeartbeats 3200000 in
theorem plateBehind_any (b l : Int) (hb : 0 ≤ b ∧ b ≤ 200) (hl : 1 ≤ l ∧ l ≤ 200) (q : Nat) (caps : Array Value) (wb : Nat → Nat → Bool) (eq' : ∀ args w, (callFunc q args).run Try.prog w = .ok (.enter q args) w) (g o cap R C : Nat) (rg ro rc : Nat → Nat) (h : Nat → Nat → Int) (w : World) (x : GR w g o cap R C rg ro rc h)
    (cQ0 : ∀ W, Below w.heap.size w W → ∀ i k, i < R → k < C → Calls Try.prog q (#[encP (i, k)] ++ caps) W fun e w' => e = .returned (.bool (wb i k)) ∧ Below W.heap.size W w') :
    Calls Try.prog 41 #[.agg #[.int .i64 b, .int .i64 l], .slice (some ⟨g, o, none⟩) R cap, .func (.func q) #[] caps] w (RowsG (gridF R C (behF b l wb h)) w) := by
  have hx := Lib.hid x
  have cQ := Lib.hid cQ0
  have hin := Lib.hid (fun i k (hi : i < R) (hk : k < C) => (show inI (behF b l wb h i k) by
    have h0 := x.h0 i k hi hk
    have h1 := x.h1 i k hi hk
    have := tnV_bd hb hl h0 h1
    unfold behF inI
    split <;> omega))
  clear x cQ0
  go_enter Try.func41, Try.ntmps41
  go_wp2_with fail
  obtain ⟨N, hN⟩ : ∃ N, N = w.heap.size := ⟨_, rfl⟩
  have g0 : (((w.alloc (.cells #[.int .i64 b, .int .i64 l] 51)).alloc (.cells #[.slice (some ⟨g, o, none⟩) R cap] 62)).alloc (.cells #[.func (.func q) #[] caps] 58)).heap[N]? = some (.cells #[.int .i64 b, .int .i64 l] 51 (0, 0)) := by
    rw [Below.heap_alloc _ _ _ (by simp; omega)]
    rw [Below.heap_alloc _ _ _ (by simp; omega)]
    have := heap_alloc_new (w) (.cells #[.int .i64 b, .int .i64 l] 51)
    rw [hN]; simpa using this
  have g1 : (((w.alloc (.cells #[.int .i64 b, .int .i64 l] 51)).alloc (.cells #[.slice (some ⟨g, o, none⟩) R cap] 62)).alloc (.cells #[.func (.func q) #[] caps] 58)).heap[N + 1]? = some (.cells #[.slice (some ⟨g, o, none⟩) R cap] 62 (0, 0)) := by
    rw [Below.heap_alloc _ _ _ (by simp; omega)]
    have := heap_alloc_new ((w.alloc (.cells #[.int .i64 b, .int .i64 l] 51))) (.cells #[.slice (some ⟨g, o, none⟩) R cap] 62)
    rw [hN]; simpa using this
  have g2 : (((w.alloc (.cells #[.int .i64 b, .int .i64 l] 51)).alloc (.cells #[.slice (some ⟨g, o, none⟩) R cap] 62)).alloc (.cells #[.func (.func q) #[] caps] 58)).heap[N + 1 + 1]? = some (.cells #[.func (.func q) #[] caps] 58 (0, 0)) := by
    have := heap_alloc_new (((w.alloc (.cells #[.int .i64 b, .int .i64 l] 51)).alloc (.cells #[.slice (some ⟨g, o, none⟩) R cap] 62))) (.cells #[.func (.func q) #[] caps] 58)
    rw [hN]; simpa using this
  have gz : (((w.alloc (.cells #[.int .i64 b, .int .i64 l] 51)).alloc (.cells #[.slice (some ⟨g, o, none⟩) R cap] 62)).alloc (.cells #[.func (.func q) #[] caps] 58)).heap.size = N + 3 := by simp [hN]
  have gB : Below w.heap.size w (((w.alloc (.cells #[.int .i64 b, .int .i64 l] 51)).alloc (.cells #[.slice (some ⟨g, o, none⟩) R cap] 62)).alloc (.cells #[.func (.func q) #[] caps] 58)) := (((Below.refl _ _).alloc (by simp <;> omega) _).alloc (by simp <;> omega) _).alloc (by simp <;> omega) _
  have hx2 := Lib.hid (hx.out.below gB)
  have gB' := Lib.hid gB
  have hNe := Lib.hid hN
  rw [← hN]
  have cS := Lib.hid (fun W (hW : Below ((((w.alloc (.cells #[.int .i64 b, .int .i64 l] 51)).alloc (.cells #[.slice (some ⟨g, o, none⟩) R cap] 62)).alloc (.cells #[.func (.func q) #[] caps] 58))).heap.size ((((w.alloc (.cells #[.int .i64 b, .int .i64 l] 51)).alloc (.cells #[.slice (some ⟨g, o, none⟩) R cap] 62)).alloc (.cells #[.func (.func q) #[] caps] 58))) W) i k (hi : i < R) (hk : k < C) => told_at 56 #[.pointer (some ⟨N + 1 + 1, 0, none⟩), .pointer (some ⟨N, 0, none⟩), .pointer (some ⟨N + 1, 0, none⟩)] (behF b l wb h i k) i k W (enters_of Try.func56 (by kernel_rfl) rfl) (fun W2 hW2 => by
    have hA := hW.trans (hW2.mono hW.size)
    have lt0 := lt_of_some g0
    have lt1 := lt_of_some g1
    have lt2 := lt_of_some g2
    exact behind1_any b l hb hl q caps wb eq' (N + 1 + 1) N (N + 1) g o cap R C rg ro rc h W2 (hx2.out.below hA) i k hi hk ((hA.cell (p := ⟨N + 1 + 1, 0, none⟩) lt2).trans (cellB g2 0 _ rfl)) ((hA.cell (p := ⟨N, 0, none⟩) lt0).trans (cellB g0 0 _ rfl)) ((hA.cell (p := ⟨N, 1, none⟩) lt0).trans (cellB g0 1 _ rfl)) ((hA.cell (p := ⟨N + 1, 0, none⟩) lt1).trans (cellB g1 0 _ rfl)) (fun W3 h3 => cQ.out W3 ((gB'.out.trans (hA.mono gB'.out.size)).trans (h3.mono (gB'.out.trans (hA.mono gB'.out.size)).size)) i k hi hk)))
  have c1 := cellB g1 0 _ rfl
  clear g0 g1 g2 gz gB hN
  generalize (((w.alloc (.cells #[.int .i64 b, .int .i64 l] 51)).alloc (.cells #[.slice (some ⟨g, o, none⟩) R cap] 62)).alloc (.cells #[.func (.func q) #[] caps] 58)) = W0 at cS hx2 gB' c1 ⊢
  have cH := Lib.hid (heightsOver_told g o cap R C rg ro rc h W0 hx2.out (.func (.func 56) #[] #[.pointer (some ⟨N + 1 + 1, 0, none⟩), .pointer (some ⟨N, 0, none⟩), .pointer (some ⟨N + 1, 0, none⟩)]) (behF b l wb h) hin.out cS.out)
  go_wp2_with (go_at_call 55; (with_reducible refine cH.out.mono ?_); rintro e w2 ⟨v, vs, rfl, O2, b2⟩)
  go_ret
  exact ⟨v, vs, rfl, O2.low (by have := gB'.out.size; omega), below2 gB'.out b2⟩
end Go.Proofs.Ytmppaimcejcoiaa
