/-
  Texts that stand together: Ovr.
-/
import Derived.Deep.AppendLies
import Derived.Deep.Cut
import Derived.Test.YtgfhjcbmilaegaaGreatDoorMg6
import Derived.Test.YtgfhjcbmilaegaaGreatDoorMg7
namespace Go.Proofs.YtgfhjcbmilaegaaGreatDoor
open Go.ChangeShapes Go.WideShapes Go.ChangeAt Go.RowKit Go.Deep
set_option linter.unusedVariables false
set_option linter.unusedSimpArgs false
set_option maxRecDepth 1000000
/-- one number under a coat that has the number c and covers v -/
def ovN (n c v : Int) : Int := rnd (n * (1000 - v) + c * v) 1000
theorem ovP_bd {n c v : Int} (hn : 0 ≤ n ∧ n ≤ 255) (hc : 0 ≤ c ∧ c ≤ 255) (hv : 0 ≤ v ∧ v ≤ 1000) : (0 ≤ n * (1000 - v) ∧ n * (1000 - v) ≤ 255000) ∧ (0 ≤ c * v ∧ c * v ≤ 255000) ∧ (0 ≤ n * (1000 - v) + c * v ∧ n * (1000 - v) + c * v ≤ 255000) := by
  have h1 : 0 ≤ n * (1000 - v) := Int.mul_nonneg hn.1 (by omega)
  have h2 : 0 ≤ c * v := Int.mul_nonneg hc.1 hv.1
  have h3 : n * (1000 - v) ≤ 255 * (1000 - v) := Int.mul_le_mul_of_nonneg_right hn.2 (by omega)
  have h4 : c * v ≤ 255 * v := Int.mul_le_mul_of_nonneg_right hc.2 hv.1
  omega
theorem ovN_bd {n c v : Int} (hn : 0 ≤ n ∧ n ≤ 255) (hc : 0 ≤ c ∧ c ≤ 255) (hv : 0 ≤ v ∧ v ≤ 1000) : 0 ≤ ovN n c v ∧ ovN n c v ≤ 255 := by
  have h := (ovP_bd hn hc hv).2.2
  unfold ovN rnd
  generalize n * (1000 - v) + c * v = p at h
  rw [if_neg (by decide), if_neg (by decide), rp_pos (by omega)]
  omega
theorem divR_1000 {p : Int} (h0 : 0 ≤ p ∧ p ≤ 255000) : divR p 1000 = rnd p 1000 := by
  unfold divR
  rw [if_neg (by decide), if_neg (by rw [inB_iff.2 (by omega)]; decide), if_neg (by decide)]
theorem calm_retC {W w' : World} {f : FuncId} {args : Array Value} {v : Value} (hw' : Below W.heap.size W w') (h : Calls Tryz.prog f args w' fun e w2 => e = .returned v ∧ Below w'.heap.size w' w2) : Calls Tryz.prog f args w' fun e w2 => e = .returned v ∧ Below W.heap.size W w2 :=
  h.mono fun _ _ ⟨h1, h2⟩ => ⟨h1, below2 hw' h2⟩
/-- the boxes of the program's call, and the coat's own row -/
def OvAt (B : Nat) (cs : Array Value) (g o : Nat) (p q r x y z : Int) (W : World) : Prop :=
  W.heap[B]? = some (.cells cs 36 (0, 0)) ∧ W.heap[B + 1]? = some (.cells #[.int .i64 x, .int .i64 y, .int .i64 z] 52 (0, 0)) ∧ W.heap[B + 1 + 1]? = some (.cells #[.int .i64 0, .int .i64 0, .int .i64 0] 52 (0, 0)) ∧ W.cell? ⟨g, o, none⟩ = some (.int .i64 p) ∧ W.cell? ⟨g, o + 1, none⟩ = some (.int .i64 q) ∧ W.cell? ⟨g, o + 2, none⟩ = some (.int .i64 r)
theorem ltOf {W : World} {b : Nat} {o : Obj} (h : W.heap[b]? = some o) : b < W.heap.size := (Array.getElem?_eq_some_iff.1 h).1
theorem OvAt.below {B g o : Nat} {cs : Array Value} {p q r x y z : Int} {W W' : World} (h : OvAt B cs g o p q r x y z W) (hg : g < B) (hb : Below W.heap.size W W') : OvAt B cs g o p q r x y z W' := by
  obtain ⟨h0, h1, h2, h3, h4, h5⟩ := h
  have e0 := ltOf h0
  have e1 := ltOf h1
  have e2 := ltOf h2
  exact ⟨(hb.block _ e0).trans h0, (hb.block _ e1).trans h1, (hb.block _ e2).trans h2, (bcell hb _ _ (by omega)).trans h3, (bcell hb _ _ (by omega)).trans h4, (bcell hb _ _ (by omega)).trans h5⟩
theorem OvAt.set {B g o : Nat} {cs : Array Value} {p q r x y z : Int} {W : World} (h : OvAt B cs g o p q r x y z W) (hg : g < B) (i : Nat) (hi : i < 3) (v : Int) : OvAt B cs g o p q r (if i = 0 then v else x) (if i = 1 then v else y) (if i = 2 then v else z) (W.setCell ⟨B + 1, i, none⟩ (.int .i64 v)) := by
  obtain ⟨h0, h1, h2, h3, h4, h5⟩ := h
  have hc : ∀ j, (W.setCell ⟨B + 1, i, none⟩ (.int .i64 v)).cell? ⟨g, j, none⟩ = W.cell? ⟨g, j, none⟩ := fun j => World.cell?_of_block (w := W) (by rw [heap_setCell_other _ _ _ _ (by simp; omega)])
  refine ⟨by rw [heap_setCell_other _ _ _ _ (by simp)]; exact h0, ?_, by rw [heap_setCell_other _ _ _ _ (by simp)]; exact h2, (hc _).trans h3, (hc _).trans h4, (hc _).trans h5⟩
  rw [heap_setCell_same _ _ _ _ _ _ h1]
  match i, hi with
  | 0, _ => rfl
  | 1, _ => rfl
  | 2, _ => rfl
theorem ov_boxes (w : World) (cs c1 c2 : Array Value) : 
    let W0 := ((w.alloc (.cells cs 36)).alloc (.cells c1 52)).alloc (.cells c2 52)
    W0.heap[w.heap.size]? = some (.cells cs 36 (0, 0)) ∧ W0.heap[w.heap.size + 1]? = some (.cells c1 52 (0, 0)) ∧ W0.heap[w.heap.size + 1 + 1]? = some (.cells c2 52 (0, 0)) ∧ Below w.heap.size w W0 := by
  intro W0
  have s1 : (w.alloc (.cells cs 36)).heap.size = w.heap.size + 1 := by simp
  have s2 : ((w.alloc (.cells cs 36)).alloc (.cells c1 52)).heap.size = w.heap.size + 1 + 1 := by simp
  have b1 : Below w.heap.size w (w.alloc (.cells cs 36)) := (Below.refl _ _).alloc (Nat.le_refl _) _
  have b2 : Below (w.alloc (.cells cs 36)).heap.size (w.alloc (.cells cs 36)) ((w.alloc (.cells cs 36)).alloc (.cells c1 52)) := (Below.refl _ _).alloc (Nat.le_refl _) _
  have b3 : Below ((w.alloc (.cells cs 36)).alloc (.cells c1 52)).heap.size ((w.alloc (.cells cs 36)).alloc (.cells c1 52)) W0 := (Below.refl _ _).alloc (Nat.le_refl _) _
  have h0 : (w.alloc (.cells cs 36)).heap[w.heap.size]? = some (.cells cs 36 (0, 0)) := heap_alloc_new _ _
  have h1 : ((w.alloc (.cells cs 36)).alloc (.cells c1 52)).heap[w.heap.size + 1]? = some (.cells c1 52 (0, 0)) := by rw [← s1]; exact heap_alloc_new _ _
  have h2 : W0.heap[w.heap.size + 1 + 1]? = some (.cells c2 52 (0, 0)) := by rw [← s2]; exact heap_alloc_new _ _
  exact ⟨(b3.block _ (by omega)).trans ((b2.block _ (by omega)).trans h0), (b3.block _ (by omega)).trans h1, h2, below2 (below2 b1 b2) b3⟩
theorem sizeCo : (Tryz.prog.info? 52).map (·.size) = some 3 := by kernel_rfl
theorem oneCo (a b c : Int) : (#[Value.int .i64 a, .int .i64 b, .int .i64 c] : Array Value).all (·.oneCell') = true := by simp [Value.oneCell']
set_option maxHeartbeats 3200000 in
theorem over_any (s : ByteArray) (a b : Int) (u : Value) (p q r x y z : Int) (hx : 0 ≤ x ∧ x ≤ 255) (hy : 0 ≤ y ∧ y ≤ 255) (hz : 0 ≤ z ∧ z ≤ 255) (hp : 0 ≤ p ∧ p ≤ 255) (hq : 0 ≤ q ∧ q ≤ 255) (hr : 0 ≤ r ∧ r ≤ 255) (hb : 0 ≤ b ∧ b ≤ 1000) (w : World) (hv : IntsAt w u [p, q, r]) : Calls Tryz.prog 26 #[.agg #[.string s, .int .i64 a, .int .i64 b, u], .agg #[.int .i64 x, .int .i64 y, .int .i64 z]] w fun e w' => e = .returned (.agg #[.int .i64 (ovN x p b), .int .i64 (ovN y q b), .int .i64 (ovN z r b)]) ∧ Below w.heap.size w w' := by
  obtain ⟨g, o, uc, rfl, hg, k0, k1, k2⟩ := row3 hv
  clear hv
  have e0 : IntKind.i64.wrap (1000 - b) = 1000 - b := IntWalk.i64_in _ (by omega)
  obtain ⟨X, hX⟩ : ∃ X, X = ovN x p b := ⟨_, rfl⟩
  have pbX := ovP_bd hx hp hb
  have cX : Hid (∀ W, Calls Tryz.prog 32 #[.int .i64 (x * (1000 - b) + p * b), .int .i64 1000] W fun e w' => e = .returned (.int .i64 X) ∧ Below W.heap.size W w') := Lib.hid (fun W => (implDivRound_any _ _ W).mono (by rintro e w' ⟨rfl, m, rfl⟩; exact ⟨ret_int (by rw [divR_1000 pbX.2.2, hX]; rfl), belowN (Below.refl _ _) m⟩))
  have eX1 : IntKind.i64.wrap (x * (1000 - b)) = x * (1000 - b) := IntWalk.i64_in _ (by omega)
  have eX2 : IntKind.i64.wrap (p * b) = p * b := IntWalk.i64_in _ (by omega)
  have eX3 : IntKind.i64.wrap (x * (1000 - b) + p * b) = x * (1000 - b) + p * b := IntWalk.i64_in _ (by omega)
  rw [← hX]
  clear hX pbX
  obtain ⟨Y, hY⟩ : ∃ Y, Y = ovN y q b := ⟨_, rfl⟩
  have pbY := ovP_bd hy hq hb
  have cY : Hid (∀ W, Calls Tryz.prog 32 #[.int .i64 (y * (1000 - b) + q * b), .int .i64 1000] W fun e w' => e = .returned (.int .i64 Y) ∧ Below W.heap.size W w') := Lib.hid (fun W => (implDivRound_any _ _ W).mono (by rintro e w' ⟨rfl, m, rfl⟩; exact ⟨ret_int (by rw [divR_1000 pbY.2.2, hY]; rfl), belowN (Below.refl _ _) m⟩))
  have eY1 : IntKind.i64.wrap (y * (1000 - b)) = y * (1000 - b) := IntWalk.i64_in _ (by omega)
  have eY2 : IntKind.i64.wrap (q * b) = q * b := IntWalk.i64_in _ (by omega)
  have eY3 : IntKind.i64.wrap (y * (1000 - b) + q * b) = y * (1000 - b) + q * b := IntWalk.i64_in _ (by omega)
  rw [← hY]
  clear hY pbY
  obtain ⟨Z, hZ⟩ : ∃ Z, Z = ovN z r b := ⟨_, rfl⟩
  have pbZ := ovP_bd hz hr hb
  have cZ : Hid (∀ W, Calls Tryz.prog 32 #[.int .i64 (z * (1000 - b) + r * b), .int .i64 1000] W fun e w' => e = .returned (.int .i64 Z) ∧ Below W.heap.size W w') := Lib.hid (fun W => (implDivRound_any _ _ W).mono (by rintro e w' ⟨rfl, m, rfl⟩; exact ⟨ret_int (by rw [divR_1000 pbZ.2.2, hZ]; rfl), belowN (Below.refl _ _) m⟩))
  have eZ1 : IntKind.i64.wrap (z * (1000 - b)) = z * (1000 - b) := IntWalk.i64_in _ (by omega)
  have eZ2 : IntKind.i64.wrap (r * b) = r * b := IntWalk.i64_in _ (by omega)
  have eZ3 : IntKind.i64.wrap (z * (1000 - b) + r * b) = z * (1000 - b) + r * b := IntWalk.i64_in _ (by omega)
  rw [← hZ]
  clear hZ pbZ
  go_enter Tryz.func26, Tryz.ntmps26
  go_upto_region 2 with fail
  obtain ⟨q0, q1, q2, hB0⟩ := ov_boxes w #[.string s, .int .i64 a, .int .i64 b, .slice (some ⟨g, o, none⟩) 3 uc] #[.int .i64 x, .int .i64 y, .int .i64 z] #[.int .i64 0, .int .i64 0, .int .i64 0]
  generalize ((w.alloc (.cells #[.string s, .int .i64 a, .int .i64 b, .slice (some ⟨g, o, none⟩) 3 uc] 36)).alloc (.cells #[.int .i64 x, .int .i64 y, .int .i64 z] 52)).alloc (.cells #[.int .i64 0, .int .i64 0, .int .i64 0] 52) = W0 at q0 q1 q2 hB0 ⊢
  have hO : OvAt w.heap.size #[.string s, .int .i64 a, .int .i64 b, .slice (some ⟨g, o, none⟩) 3 uc] g o p q r x y z W0 := ⟨q0, q1, q2, (bcell hB0 _ _ hg).trans k0, (bcell hB0 _ _ hg).trans k1, (bcell hB0 _ _ hg).trans k2⟩
  have hO' := Lib.hid hO
  have hB' := Lib.hid hB0
  have hsB := hB0.size
  generalize hBB : w.heap.size = B at hO' hg ⊢
  rw [hBB] at hsB
  clear hO q0 q1 q2 k0 k1 k2 hB0
  go_loopw [6] (fun i wr => ∃ n0 n1 n2 : Int, Hid (OvAt B #[.string s, .int .i64 a, .int .i64 b, .slice (some ⟨g, o, none⟩) 3 uc] g o p q r n0 n1 n2 wr) ∧ Hid (Below w.heap.size w wr) ∧ ((i = .int .i64 0 ∧ n0 = x ∧ n1 = y ∧ n2 = z) ∨ (i = .int .i64 1 ∧ n0 = X ∧ n1 = y ∧ n2 = z) ∨ (i = .int .i64 2 ∧ n0 = X ∧ n1 = Y ∧ n2 = z) ∨ (i = .int .i64 3 ∧ n0 = X ∧ n1 = Y ∧ n2 = Z))) (fun i _ => 3 - (intOf i).toNat)
  case atStart => exact ⟨x, y, z, hO', hB', Or.inl ⟨rfl, rfl, rfl, rfl⟩⟩
  case round =>
    obtain ⟨n0, n1, n2, hA, hB, ⟨rfl, rfl, rfl, rfl⟩ | ⟨rfl, rfl, rfl, rfl⟩ | ⟨rfl, rfl, rfl, rfl⟩ | ⟨rfl, rfl, rfl, rfl⟩⟩ := hrel
    · have open0 : Hid (∀ w', Below wr.heap.size wr w' → w'.cell? ⟨B, 2, none⟩ = some (.int .i64 b) ∧ w'.cell? ⟨B, 3, none⟩ = some (.slice (some ⟨g, o, none⟩) 3 uc) ∧ w'.cell? ⟨B + 1, 0, none⟩ = some (.int .i64 n0) ∧ w'.cell? ⟨g, o, none⟩ = some (.int .i64 p)) := Lib.hid (fun w' hw' => by
        obtain ⟨a0, a1, a2, a3, a4, a5⟩ := hA.out.below hg hw'
        exact ⟨cellB a0 2 _ rfl, cellB a0 3 _ rfl, cellB a1 0 _ rfl, a3⟩)
      have key : Hid (∀ w', Below wr.heap.size wr w' → w'.cell? ⟨B + 1, 0, none⟩ = some (.int .i64 n0) ∧ w'.frozen? ⟨B + 1, 0, none⟩ = false ∧ Hid (OvAt B #[.string s, .int .i64 a, .int .i64 b, .slice (some ⟨g, o, none⟩) 3 uc] g o p q r X n1 n2 (w'.setCell ⟨B + 1, 0, none⟩ (.int .i64 X))) ∧ Hid (Below w.heap.size w (w'.setCell ⟨B + 1, 0, none⟩ (.int .i64 X)))) := Lib.hid (fun w' hw' => by
        have h1 := hA.out.below hg hw'
        exact ⟨cellB h1.2.1 0 _ rfl, freeB h1.2.1 0, Lib.hid (h1.set hg 0 (by decide) X), Lib.hid ((below2 hB.out hw').setCell (by show w.heap.size ≤ B + 1; omega) _)⟩)
      go_wp2
      refine wp_calm 18 (fun w' => Below wr.heap.size wr w') (by kernel_rfl) (by kernel_rfl) (by kernel_rfl) (by kernel_rfl) (belowN (Below.refl _ _) 1) ?_
      simp only [List.take_succ_cons, List.take_zero, List.drop_succ_cons, List.drop_zero]
      refine calm_take (v := ?vy1) (by rfl) ?ey1 ?ry1
      case ey1 => (intro w' hw'; obtain ⟨m0, m1, m2, m3⟩ := open0.out w' hw'; go_simp; try with_reducible rfl)
      try simp only [Act.put, List.setIfInBounds_toArray, List.set_cons_zero, List.set_cons_succ]
      refine calm_take (v := ?vy2) (by rfl) ?ey2 ?ry2
      case ey2 => (intro w' hw'; obtain ⟨m0, m1, m2, m3⟩ := open0.out w' hw'; go_simp; try with_reducible rfl)
      try simp only [Act.put, List.setIfInBounds_toArray, List.set_cons_zero, List.set_cons_succ]
      refine calm_take (v := ?vy3) (by rfl) ?ey3 ?ry3
      case ey3 => (intro w' hw'; obtain ⟨m0, m1, m2, m3⟩ := open0.out w' hw'; go_simp; try with_reducible rfl)
      try simp only [Act.put, List.setIfInBounds_toArray, List.set_cons_zero, List.set_cons_succ]
      refine calm_take (v := ?vy4) (by rfl) ?ey4 ?ry4
      case ey4 => (intro w' hw'; obtain ⟨m0, m1, m2, m3⟩ := open0.out w' hw'; go_simp; try with_reducible rfl)
      try simp only [Act.put, List.setIfInBounds_toArray, List.set_cons_zero, List.set_cons_succ]
      refine calm_take (v := ?vy5) (by rfl) ?ey5 ?ry5
      case ey5 => (intro w' hw'; obtain ⟨m0, m1, m2, m3⟩ := open0.out w' hw'; go_simp; try with_reducible rfl)
      try simp only [Act.put, List.setIfInBounds_toArray, List.set_cons_zero, List.set_cons_succ]
      refine calm_take (v := ?vy6) (by rfl) ?ey6 ?ry6
      case ey6 => (intro w' hw'; obtain ⟨m0, m1, m2, m3⟩ := open0.out w' hw'; go_simp; try with_reducible rfl)
      try simp only [Act.put, List.setIfInBounds_toArray, List.set_cons_zero, List.set_cons_succ]
      refine calm_take (v := ?vy7) (by rfl) ?ey7 ?ry7
      case ey7 => (intro w' hw'; obtain ⟨m0, m1, m2, m3⟩ := open0.out w' hw'; go_simp; try with_reducible rfl)
      try simp only [Act.put, List.setIfInBounds_toArray, List.set_cons_zero, List.set_cons_succ]
      refine calm_take (v := ?vy8) (by rfl) ?ey8 ?ry8
      case ey8 => (intro w' hw'; obtain ⟨m0, m1, m2, m3⟩ := open0.out w' hw'; go_simp; try with_reducible rfl)
      try simp only [Act.put, List.setIfInBounds_toArray, List.set_cons_zero, List.set_cons_succ]
      refine calm_take (v := ?vy9) (by rfl) ?ey9 ?ry9
      case ey9 => (intro w' hw'; obtain ⟨m0, m1, m2, m3⟩ := open0.out w' hw'; go_simp; try with_reducible rfl)
      try simp only [Act.put, List.setIfInBounds_toArray, List.set_cons_zero, List.set_cons_succ]
      refine calm_take (v := ?vy10) (by rfl) ?ey10 ?ry10
      case ey10 => (intro w' hw'; obtain ⟨m0, m1, m2, m3⟩ := open0.out w' hw'; go_simp; try with_reducible rfl)
      try simp only [Act.put, List.setIfInBounds_toArray, List.set_cons_zero, List.set_cons_succ]
      refine calm_take (v := ?vy11) (by rfl) ?ey11 ?ry11
      case ey11 => (intro w' hw'; obtain ⟨m0, m1, m2, m3⟩ := open0.out w' hw'; go_simp; try with_reducible rfl)
      try simp only [Act.put, List.setIfInBounds_toArray, List.set_cons_zero, List.set_cons_succ]
      refine calm_take (v := ?vy12) (by rfl) ?ey12 ?ry12
      case ey12 => (intro w' hw'; obtain ⟨m0, m1, m2, m3⟩ := open0.out w' hw'; go_simp; try with_reducible rfl)
      try simp only [Act.put, List.setIfInBounds_toArray, List.set_cons_zero, List.set_cons_succ]
      refine calm_take (v := ?vy13) (by rfl) ?ey13 ?ry13
      case ey13 => (intro w' hw'; obtain ⟨m0, m1, m2, m3⟩ := open0.out w' hw'; go_simp; try with_reducible rfl)
      try simp only [Act.put, List.setIfInBounds_toArray, List.set_cons_zero, List.set_cons_succ]
      refine calm_take (v := ?vy14) (by rfl) ?ey14 ?ry14
      case ey14 => (intro w' hw'; obtain ⟨m0, m1, m2, m3⟩ := open0.out w' hw'; go_simp; try with_reducible rfl)
      try simp only [Act.put, List.setIfInBounds_toArray, List.set_cons_zero, List.set_cons_succ]
      refine calm_take (v := ?vy15) (by rfl) ?ey15 ?ry15
      case ey15 => (intro w' hw'; obtain ⟨m0, m1, m2, m3⟩ := open0.out w' hw'; go_simp; try with_reducible rfl)
      try simp only [Act.put, List.setIfInBounds_toArray, List.set_cons_zero, List.set_cons_succ]
      refine calm_take (v := ?vy16) (by rfl) ?ey16 ?ry16
      case ey16 => (intro w' hw'; obtain ⟨m0, m1, m2, m3⟩ := open0.out w' hw'; go_simp; try with_reducible rfl)
      try simp only [Act.put, List.setIfInBounds_toArray, List.set_cons_zero, List.set_cons_succ]
      refine calm_take (v := ?vy17) (by rfl) ?ey17 ?ry17
      case ey17 => (intro w' hw'; obtain ⟨m0, m1, m2, m3⟩ := open0.out w' hw'; go_simp; try with_reducible rfl)
      try simp only [Act.put, List.setIfInBounds_toArray, List.set_cons_zero, List.set_cons_succ]
      refine calm_call (v := .int .i64 X) (f := ?fy18) (args := ?ay18) (by rfl) ?ey18 ?cy18 ?ry18
      case ey18 => (intro w' hw'; obtain ⟨m0, m1, m2, m3⟩ := open0.out w' hw'; go_simp; first | (with_reducible rfl) | (refine ⟨?_, ?_⟩ <;> with_reducible rfl))
      case cy18 => (intro w' hw'; (try rw [e0]); (try rw [eX1]); (try rw [eX3]); with_reducible exact calm_retC hw' (cX.out w'))
      try simp only [Act.put, List.setIfInBounds_toArray, List.set_cons_zero, List.set_cons_succ]
      refine wpQuiet_nil (fun w' hw' => ?_)
      obtain ⟨m0, f0, hA2, hB2⟩ := key.out w' hw'
      clear open0 key
      go_wp2
      go_roundw
      case rel => exact ⟨_, _, _, hA2, hB2, Or.inr (Or.inl ⟨rfl, rfl, rfl, rfl⟩)⟩
      case measure => simp [intOf]
    · have open0 : Hid (∀ w', Below wr.heap.size wr w' → w'.cell? ⟨B, 2, none⟩ = some (.int .i64 b) ∧ w'.cell? ⟨B, 3, none⟩ = some (.slice (some ⟨g, o, none⟩) 3 uc) ∧ w'.cell? ⟨B + 1, 1, none⟩ = some (.int .i64 n1) ∧ w'.cell? ⟨g, o + 1, none⟩ = some (.int .i64 q)) := Lib.hid (fun w' hw' => by
        obtain ⟨a0, a1, a2, a3, a4, a5⟩ := hA.out.below hg hw'
        exact ⟨cellB a0 2 _ rfl, cellB a0 3 _ rfl, cellB a1 1 _ rfl, a4⟩)
      have key : Hid (∀ w', Below wr.heap.size wr w' → w'.cell? ⟨B + 1, 1, none⟩ = some (.int .i64 n1) ∧ w'.frozen? ⟨B + 1, 1, none⟩ = false ∧ Hid (OvAt B #[.string s, .int .i64 a, .int .i64 b, .slice (some ⟨g, o, none⟩) 3 uc] g o p q r n0 Y n2 (w'.setCell ⟨B + 1, 1, none⟩ (.int .i64 Y))) ∧ Hid (Below w.heap.size w (w'.setCell ⟨B + 1, 1, none⟩ (.int .i64 Y)))) := Lib.hid (fun w' hw' => by
        have h1 := hA.out.below hg hw'
        exact ⟨cellB h1.2.1 1 _ rfl, freeB h1.2.1 1, Lib.hid (h1.set hg 1 (by decide) Y), Lib.hid ((below2 hB.out hw').setCell (by show w.heap.size ≤ B + 1; omega) _)⟩)
      go_wp2
      refine wp_calm 18 (fun w' => Below wr.heap.size wr w') (by kernel_rfl) (by kernel_rfl) (by kernel_rfl) (by kernel_rfl) (belowN (Below.refl _ _) 1) ?_
      simp only [List.take_succ_cons, List.take_zero, List.drop_succ_cons, List.drop_zero]
      refine calm_take (v := ?vy19) (by rfl) ?ey19 ?ry19
      case ey19 => (intro w' hw'; obtain ⟨m0, m1, m2, m3⟩ := open0.out w' hw'; go_simp; try with_reducible rfl)
      try simp only [Act.put, List.setIfInBounds_toArray, List.set_cons_zero, List.set_cons_succ]
      refine calm_take (v := ?vy20) (by rfl) ?ey20 ?ry20
      case ey20 => (intro w' hw'; obtain ⟨m0, m1, m2, m3⟩ := open0.out w' hw'; go_simp; try with_reducible rfl)
      try simp only [Act.put, List.setIfInBounds_toArray, List.set_cons_zero, List.set_cons_succ]
      refine calm_take (v := ?vy21) (by rfl) ?ey21 ?ry21
      case ey21 => (intro w' hw'; obtain ⟨m0, m1, m2, m3⟩ := open0.out w' hw'; go_simp; try with_reducible rfl)
      try simp only [Act.put, List.setIfInBounds_toArray, List.set_cons_zero, List.set_cons_succ]
      refine calm_take (v := ?vy22) (by rfl) ?ey22 ?ry22
      case ey22 => (intro w' hw'; obtain ⟨m0, m1, m2, m3⟩ := open0.out w' hw'; go_simp; try with_reducible rfl)
      try simp only [Act.put, List.setIfInBounds_toArray, List.set_cons_zero, List.set_cons_succ]
      refine calm_take (v := ?vy23) (by rfl) ?ey23 ?ry23
      case ey23 => (intro w' hw'; obtain ⟨m0, m1, m2, m3⟩ := open0.out w' hw'; go_simp; try with_reducible rfl)
      try simp only [Act.put, List.setIfInBounds_toArray, List.set_cons_zero, List.set_cons_succ]
      refine calm_take (v := ?vy24) (by rfl) ?ey24 ?ry24
      case ey24 => (intro w' hw'; obtain ⟨m0, m1, m2, m3⟩ := open0.out w' hw'; go_simp; try with_reducible rfl)
      try simp only [Act.put, List.setIfInBounds_toArray, List.set_cons_zero, List.set_cons_succ]
      refine calm_take (v := ?vy25) (by rfl) ?ey25 ?ry25
      case ey25 => (intro w' hw'; obtain ⟨m0, m1, m2, m3⟩ := open0.out w' hw'; go_simp; try with_reducible rfl)
      try simp only [Act.put, List.setIfInBounds_toArray, List.set_cons_zero, List.set_cons_succ]
      refine calm_take (v := ?vy26) (by rfl) ?ey26 ?ry26
      case ey26 => (intro w' hw'; obtain ⟨m0, m1, m2, m3⟩ := open0.out w' hw'; go_simp; try with_reducible rfl)
      try simp only [Act.put, List.setIfInBounds_toArray, List.set_cons_zero, List.set_cons_succ]
      refine calm_take (v := ?vy27) (by rfl) ?ey27 ?ry27
      case ey27 => (intro w' hw'; obtain ⟨m0, m1, m2, m3⟩ := open0.out w' hw'; go_simp; try with_reducible rfl)
      try simp only [Act.put, List.setIfInBounds_toArray, List.set_cons_zero, List.set_cons_succ]
      refine calm_take (v := ?vy28) (by rfl) ?ey28 ?ry28
      case ey28 => (intro w' hw'; obtain ⟨m0, m1, m2, m3⟩ := open0.out w' hw'; go_simp; try with_reducible rfl)
      try simp only [Act.put, List.setIfInBounds_toArray, List.set_cons_zero, List.set_cons_succ]
      refine calm_take (v := ?vy29) (by rfl) ?ey29 ?ry29
      case ey29 => (intro w' hw'; obtain ⟨m0, m1, m2, m3⟩ := open0.out w' hw'; go_simp; try with_reducible rfl)
      try simp only [Act.put, List.setIfInBounds_toArray, List.set_cons_zero, List.set_cons_succ]
      refine calm_take (v := ?vy30) (by rfl) ?ey30 ?ry30
      case ey30 => (intro w' hw'; obtain ⟨m0, m1, m2, m3⟩ := open0.out w' hw'; go_simp; try with_reducible rfl)
      try simp only [Act.put, List.setIfInBounds_toArray, List.set_cons_zero, List.set_cons_succ]
      refine calm_take (v := ?vy31) (by rfl) ?ey31 ?ry31
      case ey31 => (intro w' hw'; obtain ⟨m0, m1, m2, m3⟩ := open0.out w' hw'; go_simp; try with_reducible rfl)
      try simp only [Act.put, List.setIfInBounds_toArray, List.set_cons_zero, List.set_cons_succ]
      refine calm_take (v := ?vy32) (by rfl) ?ey32 ?ry32
      case ey32 => (intro w' hw'; obtain ⟨m0, m1, m2, m3⟩ := open0.out w' hw'; go_simp; try with_reducible rfl)
      try simp only [Act.put, List.setIfInBounds_toArray, List.set_cons_zero, List.set_cons_succ]
      refine calm_take (v := ?vy33) (by rfl) ?ey33 ?ry33
      case ey33 => (intro w' hw'; obtain ⟨m0, m1, m2, m3⟩ := open0.out w' hw'; go_simp; try with_reducible rfl)
      try simp only [Act.put, List.setIfInBounds_toArray, List.set_cons_zero, List.set_cons_succ]
      refine calm_take (v := ?vy34) (by rfl) ?ey34 ?ry34
      case ey34 => (intro w' hw'; obtain ⟨m0, m1, m2, m3⟩ := open0.out w' hw'; go_simp; try with_reducible rfl)
      try simp only [Act.put, List.setIfInBounds_toArray, List.set_cons_zero, List.set_cons_succ]
      refine calm_take (v := ?vy35) (by rfl) ?ey35 ?ry35
      case ey35 => (intro w' hw'; obtain ⟨m0, m1, m2, m3⟩ := open0.out w' hw'; go_simp; try with_reducible rfl)
      try simp only [Act.put, List.setIfInBounds_toArray, List.set_cons_zero, List.set_cons_succ]
      refine calm_call (v := .int .i64 Y) (f := ?fy36) (args := ?ay36) (by rfl) ?ey36 ?cy36 ?ry36
      case ey36 => (intro w' hw'; obtain ⟨m0, m1, m2, m3⟩ := open0.out w' hw'; go_simp; first | (with_reducible rfl) | (refine ⟨?_, ?_⟩ <;> with_reducible rfl))
      case cy36 => (intro w' hw'; (try rw [e0]); (try rw [eY1]); (try rw [eY3]); with_reducible exact calm_retC hw' (cY.out w'))
      try simp only [Act.put, List.setIfInBounds_toArray, List.set_cons_zero, List.set_cons_succ]
      refine wpQuiet_nil (fun w' hw' => ?_)
      obtain ⟨m0, f0, hA2, hB2⟩ := key.out w' hw'
      clear open0 key
      go_wp2
      go_roundw
      case rel => exact ⟨_, _, _, hA2, hB2, Or.inr (Or.inr (Or.inl ⟨rfl, rfl, rfl, rfl⟩))⟩
      case measure => simp [intOf]
    · have open0 : Hid (∀ w', Below wr.heap.size wr w' → w'.cell? ⟨B, 2, none⟩ = some (.int .i64 b) ∧ w'.cell? ⟨B, 3, none⟩ = some (.slice (some ⟨g, o, none⟩) 3 uc) ∧ w'.cell? ⟨B + 1, 2, none⟩ = some (.int .i64 n2) ∧ w'.cell? ⟨g, o + 2, none⟩ = some (.int .i64 r)) := Lib.hid (fun w' hw' => by
        obtain ⟨a0, a1, a2, a3, a4, a5⟩ := hA.out.below hg hw'
        exact ⟨cellB a0 2 _ rfl, cellB a0 3 _ rfl, cellB a1 2 _ rfl, a5⟩)
      have key : Hid (∀ w', Below wr.heap.size wr w' → w'.cell? ⟨B + 1, 2, none⟩ = some (.int .i64 n2) ∧ w'.frozen? ⟨B + 1, 2, none⟩ = false ∧ Hid (OvAt B #[.string s, .int .i64 a, .int .i64 b, .slice (some ⟨g, o, none⟩) 3 uc] g o p q r n0 n1 Z (w'.setCell ⟨B + 1, 2, none⟩ (.int .i64 Z))) ∧ Hid (Below w.heap.size w (w'.setCell ⟨B + 1, 2, none⟩ (.int .i64 Z)))) := Lib.hid (fun w' hw' => by
        have h1 := hA.out.below hg hw'
        exact ⟨cellB h1.2.1 2 _ rfl, freeB h1.2.1 2, Lib.hid (h1.set hg 2 (by decide) Z), Lib.hid ((below2 hB.out hw').setCell (by show w.heap.size ≤ B + 1; omega) _)⟩)
      go_wp2
      refine wp_calm 18 (fun w' => Below wr.heap.size wr w') (by kernel_rfl) (by kernel_rfl) (by kernel_rfl) (by kernel_rfl) (belowN (Below.refl _ _) 1) ?_
      simp only [List.take_succ_cons, List.take_zero, List.drop_succ_cons, List.drop_zero]
      refine calm_take (v := ?vy37) (by rfl) ?ey37 ?ry37
      case ey37 => (intro w' hw'; obtain ⟨m0, m1, m2, m3⟩ := open0.out w' hw'; go_simp; try with_reducible rfl)
      try simp only [Act.put, List.setIfInBounds_toArray, List.set_cons_zero, List.set_cons_succ]
      refine calm_take (v := ?vy38) (by rfl) ?ey38 ?ry38
      case ey38 => (intro w' hw'; obtain ⟨m0, m1, m2, m3⟩ := open0.out w' hw'; go_simp; try with_reducible rfl)
      try simp only [Act.put, List.setIfInBounds_toArray, List.set_cons_zero, List.set_cons_succ]
      refine calm_take (v := ?vy39) (by rfl) ?ey39 ?ry39
      case ey39 => (intro w' hw'; obtain ⟨m0, m1, m2, m3⟩ := open0.out w' hw'; go_simp; try with_reducible rfl)
      try simp only [Act.put, List.setIfInBounds_toArray, List.set_cons_zero, List.set_cons_succ]
      refine calm_take (v := ?vy40) (by rfl) ?ey40 ?ry40
      case ey40 => (intro w' hw'; obtain ⟨m0, m1, m2, m3⟩ := open0.out w' hw'; go_simp; try with_reducible rfl)
      try simp only [Act.put, List.setIfInBounds_toArray, List.set_cons_zero, List.set_cons_succ]
      refine calm_take (v := ?vy41) (by rfl) ?ey41 ?ry41
      case ey41 => (intro w' hw'; obtain ⟨m0, m1, m2, m3⟩ := open0.out w' hw'; go_simp; try with_reducible rfl)
      try simp only [Act.put, List.setIfInBounds_toArray, List.set_cons_zero, List.set_cons_succ]
      refine calm_take (v := ?vy42) (by rfl) ?ey42 ?ry42
      case ey42 => (intro w' hw'; obtain ⟨m0, m1, m2, m3⟩ := open0.out w' hw'; go_simp; try with_reducible rfl)
      try simp only [Act.put, List.setIfInBounds_toArray, List.set_cons_zero, List.set_cons_succ]
      refine calm_take (v := ?vy43) (by rfl) ?ey43 ?ry43
      case ey43 => (intro w' hw'; obtain ⟨m0, m1, m2, m3⟩ := open0.out w' hw'; go_simp; try with_reducible rfl)
      try simp only [Act.put, List.setIfInBounds_toArray, List.set_cons_zero, List.set_cons_succ]
      refine calm_take (v := ?vy44) (by rfl) ?ey44 ?ry44
      case ey44 => (intro w' hw'; obtain ⟨m0, m1, m2, m3⟩ := open0.out w' hw'; go_simp; try with_reducible rfl)
      try simp only [Act.put, List.setIfInBounds_toArray, List.set_cons_zero, List.set_cons_succ]
      refine calm_take (v := ?vy45) (by rfl) ?ey45 ?ry45
      case ey45 => (intro w' hw'; obtain ⟨m0, m1, m2, m3⟩ := open0.out w' hw'; go_simp; try with_reducible rfl)
      try simp only [Act.put, List.setIfInBounds_toArray, List.set_cons_zero, List.set_cons_succ]
      refine calm_take (v := ?vy46) (by rfl) ?ey46 ?ry46
      case ey46 => (intro w' hw'; obtain ⟨m0, m1, m2, m3⟩ := open0.out w' hw'; go_simp; try with_reducible rfl)
      try simp only [Act.put, List.setIfInBounds_toArray, List.set_cons_zero, List.set_cons_succ]
      refine calm_take (v := ?vy47) (by rfl) ?ey47 ?ry47
      case ey47 => (intro w' hw'; obtain ⟨m0, m1, m2, m3⟩ := open0.out w' hw'; go_simp; try with_reducible rfl)
      try simp only [Act.put, List.setIfInBounds_toArray, List.set_cons_zero, List.set_cons_succ]
      refine calm_take (v := ?vy48) (by rfl) ?ey48 ?ry48
      case ey48 => (intro w' hw'; obtain ⟨m0, m1, m2, m3⟩ := open0.out w' hw'; go_simp; try with_reducible rfl)
      try simp only [Act.put, List.setIfInBounds_toArray, List.set_cons_zero, List.set_cons_succ]
      refine calm_take (v := ?vy49) (by rfl) ?ey49 ?ry49
      case ey49 => (intro w' hw'; obtain ⟨m0, m1, m2, m3⟩ := open0.out w' hw'; go_simp; try with_reducible rfl)
      try simp only [Act.put, List.setIfInBounds_toArray, List.set_cons_zero, List.set_cons_succ]
      refine calm_take (v := ?vy50) (by rfl) ?ey50 ?ry50
      case ey50 => (intro w' hw'; obtain ⟨m0, m1, m2, m3⟩ := open0.out w' hw'; go_simp; try with_reducible rfl)
      try simp only [Act.put, List.setIfInBounds_toArray, List.set_cons_zero, List.set_cons_succ]
      refine calm_take (v := ?vy51) (by rfl) ?ey51 ?ry51
      case ey51 => (intro w' hw'; obtain ⟨m0, m1, m2, m3⟩ := open0.out w' hw'; go_simp; try with_reducible rfl)
      try simp only [Act.put, List.setIfInBounds_toArray, List.set_cons_zero, List.set_cons_succ]
      refine calm_take (v := ?vy52) (by rfl) ?ey52 ?ry52
      case ey52 => (intro w' hw'; obtain ⟨m0, m1, m2, m3⟩ := open0.out w' hw'; go_simp; try with_reducible rfl)
      try simp only [Act.put, List.setIfInBounds_toArray, List.set_cons_zero, List.set_cons_succ]
      refine calm_take (v := ?vy53) (by rfl) ?ey53 ?ry53
      case ey53 => (intro w' hw'; obtain ⟨m0, m1, m2, m3⟩ := open0.out w' hw'; go_simp; try with_reducible rfl)
      try simp only [Act.put, List.setIfInBounds_toArray, List.set_cons_zero, List.set_cons_succ]
      refine calm_call (v := .int .i64 Z) (f := ?fy54) (args := ?ay54) (by rfl) ?ey54 ?cy54 ?ry54
      case ey54 => (intro w' hw'; obtain ⟨m0, m1, m2, m3⟩ := open0.out w' hw'; go_simp; first | (with_reducible rfl) | (refine ⟨?_, ?_⟩ <;> with_reducible rfl))
      case cy54 => (intro w' hw'; (try rw [e0]); (try rw [eZ1]); (try rw [eZ3]); with_reducible exact calm_retC hw' (cZ.out w'))
      try simp only [Act.put, List.setIfInBounds_toArray, List.set_cons_zero, List.set_cons_succ]
      refine wpQuiet_nil (fun w' hw' => ?_)
      obtain ⟨m0, f0, hA2, hB2⟩ := key.out w' hw'
      clear open0 key
      go_wp2
      go_roundw
      case rel => exact ⟨_, _, _, hA2, hB2, Or.inr (Or.inr (Or.inr ⟨rfl, rfl, rfl, rfl⟩))⟩
      case measure => simp [intOf]
    · obtain ⟨a0, a1, a2, a3, a4, a5⟩ := hA.out
      have hr1 : wr.rangeAt (B + 1) 0 [.int .i64 n0, .int .i64 n1, .int .i64 n2] := fun j v hv => by rw [Nat.zero_add]; exact cellB a1 j v (by simpa using hv)
      have th2 : wr.there (B + 1 + 1) 0 3 := fun j hj => by
        rw [Nat.zero_add]
        refine ⟨?_, freeB a2 j⟩
        rw [cellB a2 j ((#[.int .i64 0, .int .i64 0, .int .i64 0] : Array Value)[j]'(by simpa using hj)) (Array.getElem?_eq_getElem _)]; rfl
      have hfin : Hid (∀ w5, wr.setCells (B + 1 + 1) 0 [.int .i64 n0, .int .i64 n1, .int .i64 n2] = w5 → (w5.cell? ⟨B + 1 + 1, 0, none⟩ = some (.int .i64 n0) ∧ w5.cell? ⟨B + 1 + 1, 1, none⟩ = some (.int .i64 n1) ∧ w5.cell? ⟨B + 1 + 1, 2, none⟩ = some (.int .i64 n2)) ∧ Below w.heap.size w w5) := Lib.hid (fun w5 h5 => by
        subst h5
        have hr := World.rangeAt_setCells_same wr (B + 1 + 1) 0 [.int .i64 n0, .int .i64 n1, .int .i64 n2] th2
        exact ⟨⟨by simpa using hr 0 _ rfl, by simpa using hr 1 _ rfl, by simpa using hr 2 _ rfl⟩, below_sets (by omega) _ _ _ hB.out⟩)
      clear a0 a1 a2 a3 a4 a5
      go_wp2_with (first
        | (refine wpList_load_mid rfl _ _ rfl (B + 1) 0 rfl _ _ hr1 Tryz.underlying52 rfl rfl ?_)
        | (refine wpList_store_mid rfl _ _ _ rfl (B + 1 + 1) 0 _ rfl rfl ?_ sizeCo (oneCo _ _ _) ?_; (exact th2); generalize hW : World.setCells _ _ _ _ = w5; (have H := hfin.out w5 hW); clear hW))
      obtain ⟨⟨e0, e1, e2⟩, hb5⟩ := H
      exact bodyPost_ret (v := .agg #[.int .i64 n0, .int .i64 n1, .int .i64 n2]) (by simp [results, Tryz.results26, go_sem, e0, e1, e2]) rfl ⟨rfl, hb5⟩
end Go.Proofs.YtgfhjcbmilaegaaGreatDoor
