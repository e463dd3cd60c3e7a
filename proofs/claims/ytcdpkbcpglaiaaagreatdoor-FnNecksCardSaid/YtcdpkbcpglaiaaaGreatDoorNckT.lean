/-
  Necks: the scale, the projection, other angles.
-/
import Derived.Test.YtcdpkbcpglaiaaaGreatDoorNckIn
import Derived.Deep.RegionHeld3
import Derived.Deep.QuietTactic
import Derived.BigQuiet
import Derived.Test.YtcdpkbcpglaiaaaGreatDoorReg
namespace Go.Proofs.YtcdpkbcpglaiaaaGreatDoor
open Go.ChangeShapes Go.WideShapes Go.ChangeAt Go.RowKit Go.Deep
set_option linter.unusedVariables false
set_option linter.unusedSimpArgs false
set_option maxRecDepth 1000000
theorem scale_any (a : Int) (b : Int) (c : Int) (d : Int) (ha : 100 ≤ a ∧ a ≤ 10000) (hb : 100 ≤ b ∧ b ≤ 10000) (w : World) : Calls Tryz.prog 34 #[.agg #[.int .i64 a, .int .i64 b, .int .i64 c, .int .i64 d]] w fun e w' => e = .returned (.int .i64 (a + b)) ∧ Below w.heap.size w w' := by
  have e1 : IntKind.i64.wrap (a + b) = a + b := IntWalk.i64_in _ (by omega)
  go_enter Tryz.func34, Tryz.ntmps34
  go_wp2
  go_ret
  exact ⟨rfl, (Below.refl _ _).alloc (Nat.le_refl _) _⟩
set_option maxHeartbeats 1600000 in
theorem projection_any (a : Int) (b : Int) (c : Int) (d : Int) (hb : 100 ≤ b ∧ b ≤ 10000) (hc : 0 ≤ c ∧ c ≤ 500) (hd : 0 ≤ d ∧ d ≤ 300000) (w : World) : Calls Tryz.prog 27 #[.agg #[.int .i64 a, .int .i64 b, .int .i64 c, .int .i64 d]] w fun e w' => e = .returned (.int .i64 (prjV b c d)) ∧ Below w.heap.size w w' := by
  have hp := prj_bd hb hc hd
  have hq : Hid (c + rnd (b * d) 1000 = prjV b c d) := Lib.hid rfl
  have cN0 := fun W => nearB_any (b * d) 1000 (by decide) (by omega) (by omega) (by decide) (by decide) W
  have hr := rnd1000_bd (p := b * d) (M := 3000000) hp.2.2.1 (by omega)
  obtain ⟨z, hz⟩ : ∃ z, z = rnd (b * d) 1000 := ⟨_, rfl⟩
  rw [← hz] at cN0 hq hr
  have cN := Lib.hid cN0
  have e1 : IntKind.i64.wrap (b * d) = b * d := IntWalk.i64_in _ (by omega)
  have e2 : IntKind.i64.wrap (c + z) = c + z := IntWalk.i64_in _ (by omega)
  clear hz cN0 hp
  go_enter Tryz.func27, Tryz.ntmps27
  go_wp2_with fail
  obtain ⟨q1, hB0, hsz⟩ := one_box w #[.int .i64 a, .int .i64 b, .int .i64 c, .int .i64 d] 25
  generalize (w.alloc (.cells #[.int .i64 a, .int .i64 b, .int .i64 c, .int .i64 d] 25)) = W0 at q1 hB0 hsz ⊢
  have hS : ((W0.cell? ⟨w.heap.size, 0, none⟩ = some (.int .i64 a) ∧ W0.cell? ⟨w.heap.size, 1, none⟩ = some (.int .i64 b) ∧ W0.cell? ⟨w.heap.size, 2, none⟩ = some (.int .i64 c) ∧ W0.cell? ⟨w.heap.size, 3, none⟩ = some (.int .i64 d)) ∧ Below W0.heap.size W0 W0) := ⟨⟨q1 0 _ rfl, q1 1 _ rfl, q1 2 _ rfl, q1 3 _ rfl⟩, Below.refl _ _⟩
  have keep : ∀ W1 W2, ((W1.cell? ⟨w.heap.size, 0, none⟩ = some (.int .i64 a) ∧ W1.cell? ⟨w.heap.size, 1, none⟩ = some (.int .i64 b) ∧ W1.cell? ⟨w.heap.size, 2, none⟩ = some (.int .i64 c) ∧ W1.cell? ⟨w.heap.size, 3, none⟩ = some (.int .i64 d)) ∧ Below W0.heap.size W0 W1) → Below W1.heap.size W1 W2 → ((W2.cell? ⟨w.heap.size, 0, none⟩ = some (.int .i64 a) ∧ W2.cell? ⟨w.heap.size, 1, none⟩ = some (.int .i64 b) ∧ W2.cell? ⟨w.heap.size, 2, none⟩ = some (.int .i64 c) ∧ W2.cell? ⟨w.heap.size, 3, none⟩ = some (.int .i64 d)) ∧ Below W0.heap.size W0 W2) := fun W1 W2 h1 h2 => by
    obtain ⟨p0, hb⟩ := h1
    exact ⟨NckAt.below (x := ⟨a, b, c, d⟩) (o := 0) p0 (Nat.lt_of_lt_of_le hsz hb.size) h2, hb.trans (h2.mono hb.size)⟩
  have keepH := Lib.hid keep
  clear keep
  clear q1
  go_wp2
  go_region_held3 (fun w' => ((w'.cell? ⟨w.heap.size, 0, none⟩ = some (.int .i64 a) ∧ w'.cell? ⟨w.heap.size, 1, none⟩ = some (.int .i64 b) ∧ w'.cell? ⟨w.heap.size, 2, none⟩ = some (.int .i64 c) ∧ w'.cell? ⟨w.heap.size, 3, none⟩ = some (.int .i64 d)) ∧ Below W0.heap.size W0 w'))
    (first | exact ⟨hS.1, belowN hS.2 1⟩ | exact keepH.out _ _ (by assumption) (by assumption) | assumption)
    (first | (go_at_call 35; (with_reducible refine (cN.out _).mono ?_); rintro e w' ⟨rfl, hbel⟩))
  rename_i hHeld
  go_wp2
  go_ret
  exact ⟨ret_int hq.out, below2 hB0 hHeld.2⟩
set_option maxHeartbeats 1000000 in
theorem withAngle_any (a : Int) (b : Int) (c : Int) (d : Int) (p : Int) (w : World) : Calls Tryz.prog 26 #[.agg #[.int .i64 a, .int .i64 b, .int .i64 c, .int .i64 d], .int .i64 p] w fun e w' => e = .returned (.agg #[.int .i64 a, .int .i64 b, .int .i64 c, .int .i64 p]) ∧ Below w.heap.size w w' := by
  go_enter Tryz.func26, Tryz.ntmps26
  go_wp2
  exact bodyPost_ret (v := .agg #[.int .i64 a, .int .i64 b, .int .i64 c, .int .i64 p]) (by simp [results, Tryz.results26, go_sem]) rfl ⟨rfl, (((Below.refl _ _).alloc (Nat.le_refl _) _).alloc (by simp) _)⟩
/-- the angle with a shim -/
def shmV (d k j : Int) : Int := d + rnd (1000 * k) j
theorem shm_bd {d k j : Int} (hd : 0 ≤ d ∧ d ≤ 300) (hk : 0 ≤ k ∧ k ≤ 200) (hj : 1 ≤ j ∧ j ≤ 1000) : 0 ≤ rnd (1000 * k) j ∧ rnd (1000 * k) j ≤ 200001 ∧ 0 ≤ shmV d k j ∧ shmV d k j ≤ 200301 := by
  have h1 := rnd_bd (1000 * k) j (by omega)
  have h0 : 0 ≤ rnd (1000 * k) j := by
    unfold rnd
    rw [if_neg (by omega), if_neg (by omega), rp_pos (by omega)]
    exact Int.ediv_nonneg (by omega) (by omega)
  unfold shmV
  omega
theorem calm_ret {w : World} {f : FuncId} {args : Array Value} {w' : World} {v : Value} (hw' : Below w.heap.size w w') (h : Calls Tryz.prog f args w' fun e w'' => e = .returned v ∧ Below w'.heap.size w' w'') : Calls Tryz.prog f args w' fun e w'' => e = .returned v ∧ Below w.heap.size w w'' :=
  h.mono (by rintro e w'' ⟨rfl, hb⟩; exact ⟨rfl, below2 hw' hb⟩)
set_option maxHeartbeats 1600000 in
theorem withShim_any (a : Int) (b : Int) (c : Int) (d : Int) (k j : Int) (hd : 0 ≤ d ∧ d ≤ 300) (hk : 0 ≤ k ∧ k ≤ 200) (hj : 1 ≤ j ∧ j ≤ 1000) (w : World) : Calls Tryz.prog 32 #[.agg #[.int .i64 a, .int .i64 b, .int .i64 c, .int .i64 d], .int .i64 k, .int .i64 j] w fun e w' => e = .returned (.agg #[.int .i64 a, .int .i64 b, .int .i64 c, .int .i64 (shmV d k j)]) ∧ Below w.heap.size w w' := by
  have hp := shm_bd hd hk hj
  have hq : Hid (d + rnd (1000 * k) j = shmV d k j) := Lib.hid rfl
  have cN0 := fun W => nearB_any (1000 * k) j (by omega) (by omega) (by omega) (by omega) (by omega) W
  obtain ⟨z, hz⟩ : ∃ z, z = rnd (1000 * k) j := ⟨_, rfl⟩
  rw [← hz] at cN0 hq hp
  have cN := Lib.hid cN0
  have cW := Lib.hid (fun W => withAngle_any a b c d (d + z) W)
  have e1 : IntKind.i64.wrap (1000 * k) = 1000 * k := IntWalk.i64_in _ (by omega)
  have e2 : IntKind.i64.wrap (d + z) = d + z := IntWalk.i64_in _ (by omega)
  clear hz cN0 hp
  have hB0 : Below w.heap.size w ((w.alloc (.cells #[.int .i64 a, .int .i64 b, .int .i64 c, .int .i64 d] 25)).alloc (.cells #[.int .i64 0, .int .i64 0, .int .i64 0, .int .i64 0] 25)) := ((Below.refl _ _).alloc (Nat.le_refl _) _).alloc (by simp) _
  have hR0 : ((w.alloc (.cells #[.int .i64 a, .int .i64 b, .int .i64 c, .int .i64 d] 25)).alloc (.cells #[.int .i64 0, .int .i64 0, .int .i64 0, .int .i64 0] 25)).heap[w.heap.size + 1]? = some (.cells #[.int .i64 0, .int .i64 0, .int .i64 0, .int .i64 0] 25 (0, 0)) := by
    have := heap_alloc_new (w.alloc (.cells #[.int .i64 a, .int .i64 b, .int .i64 c, .int .i64 d] 25)) (.cells #[.int .i64 0, .int .i64 0, .int .i64 0, .int .i64 0] 25)
    simpa using this
  have hx0 : NckAt ((w.alloc (.cells #[.int .i64 a, .int .i64 b, .int .i64 c, .int .i64 d] 25)).alloc (.cells #[.int .i64 0, .int .i64 0, .int .i64 0, .int .i64 0] 25)) w.heap.size 0 ⟨a, b, c, d⟩ := (nck_box a b c d w).below (by simp) ((Below.refl _ _).alloc (Nat.le_refl _) _)
  have hsz : w.heap.size + 1 < ((w.alloc (.cells #[.int .i64 a, .int .i64 b, .int .i64 c, .int .i64 d] 25)).alloc (.cells #[.int .i64 0, .int .i64 0, .int .i64 0, .int .i64 0] 25)).heap.size := by simp
  go_enter Tryz.func32, Tryz.ntmps32
  go_wp2
  generalize ((w.alloc (.cells #[.int .i64 a, .int .i64 b, .int .i64 c, .int .i64 d] 25)).alloc (.cells #[.int .i64 0, .int .i64 0, .int .i64 0, .int .i64 0] 25)) = W at hB0 hR0 hx0 hsz ⊢
  have open0 : Hid (∀ w', Below W.heap.size W w' → (w'.cell? ⟨w.heap.size, 0, none⟩ = some (.int .i64 a) ∧ w'.cell? ⟨w.heap.size, 1, none⟩ = some (.int .i64 b) ∧ w'.cell? ⟨w.heap.size, 2, none⟩ = some (.int .i64 c) ∧ w'.cell? ⟨w.heap.size, 3, none⟩ = some (.int .i64 d))) := Lib.hid (fun w' hw' => hx0.below (by omega) hw')
  clear hx0
  refine wp_calm 9 (fun w' => Below W.heap.size W w') (by kernel_rfl) (by kernel_rfl) (by kernel_rfl) (by kernel_rfl) (belowN (Below.refl _ _) 1) ?_
  simp only [List.take_succ_cons, List.take_zero, List.drop_succ_cons, List.drop_zero]
  refine calm_take (v := ?vy1) (by rfl) ?ey1 ?ry1
  case ey1 => (intro w' hw'; obtain ⟨c0, c1, c2, c3⟩ := open0.out w' hw'; go_simp; try with_reducible rfl)
  try simp only [Act.put, List.setIfInBounds_toArray, List.set_cons_zero, List.set_cons_succ]
  refine calm_take (v := ?vy2) (by rfl) ?ey2 ?ry2
  case ey2 => (intro w' hw'; obtain ⟨c0, c1, c2, c3⟩ := open0.out w' hw'; go_simp; try with_reducible rfl)
  try simp only [Act.put, List.setIfInBounds_toArray, List.set_cons_zero, List.set_cons_succ]
  refine calm_take (v := ?vy3) (by rfl) ?ey3 ?ry3
  case ey3 => (intro w' hw'; obtain ⟨c0, c1, c2, c3⟩ := open0.out w' hw'; go_simp; try with_reducible rfl)
  try simp only [Act.put, List.setIfInBounds_toArray, List.set_cons_zero, List.set_cons_succ]
  refine calm_take (v := ?vy4) (by rfl) ?ey4 ?ry4
  case ey4 => (intro w' hw'; obtain ⟨c0, c1, c2, c3⟩ := open0.out w' hw'; go_simp; try with_reducible rfl)
  try simp only [Act.put, List.setIfInBounds_toArray, List.set_cons_zero, List.set_cons_succ]
  refine calm_take (v := ?vy5) (by rfl) ?ey5 ?ry5
  case ey5 => (intro w' hw'; obtain ⟨c0, c1, c2, c3⟩ := open0.out w' hw'; go_simp; try with_reducible rfl)
  try simp only [Act.put, List.setIfInBounds_toArray, List.set_cons_zero, List.set_cons_succ]
  refine calm_take (v := ?vy6) (by rfl) ?ey6 ?ry6
  case ey6 => (intro w' hw'; obtain ⟨c0, c1, c2, c3⟩ := open0.out w' hw'; go_simp; try with_reducible rfl)
  try simp only [Act.put, List.setIfInBounds_toArray, List.set_cons_zero, List.set_cons_succ]
  refine calm_call (v := .int .i64 z) (f := ?fy7) (args := ?ay7) (by rfl) ?ey7 ?cy7 ?ry7
  case ey7 => (intro w' hw'; obtain ⟨c0, c1, c2, c3⟩ := open0.out w' hw'; go_simp; first | (with_reducible rfl) | (refine ⟨?_, ?_⟩ <;> with_reducible rfl))
  case cy7 => (intro w' hw'; with_reducible exact calm_ret hw' (cN.out w'))
  try simp only [Act.put, List.setIfInBounds_toArray, List.set_cons_zero, List.set_cons_succ]
  refine calm_take (v := ?vy8) (by rfl) ?ey8 ?ry8
  case ey8 => (intro w' hw'; obtain ⟨c0, c1, c2, c3⟩ := open0.out w' hw'; go_simp; try with_reducible rfl)
  try simp only [Act.put, List.setIfInBounds_toArray, List.set_cons_zero, List.set_cons_succ]
  refine calm_call (v := .agg #[.int .i64 a, .int .i64 b, .int .i64 c, .int .i64 (d + z)]) (f := ?fy9) (args := ?ay9) (by rfl) ?ey9 ?cy9 ?ry9
  case ey9 => (intro w' hw'; obtain ⟨c0, c1, c2, c3⟩ := open0.out w' hw'; go_simp; first | (with_reducible rfl) | (refine ⟨?_, ?_⟩ <;> with_reducible rfl))
  case cy9 => (intro w' hw'; with_reducible exact calm_ret hw' (cW.out w'))
  try simp only [Act.put, List.setIfInBounds_toArray, List.set_cons_zero, List.set_cons_succ]
  refine wpQuiet_nil (fun w' hw' => ?_)
  have hR := (hw'.block _ hsz).trans hR0
  have c0 := cellB hR 0 _ rfl
  have c1 := cellB hR 1 _ rfl
  have c2 := cellB hR 2 _ rfl
  have c3 := cellB hR 3 _ rfl
  have f0 := freeB hR 0
  have f1 := freeB hR 1
  have f2 := freeB hR 2
  have f3 := freeB hR 3
  clear hR hR0 open0 cN cW
  go_wp2
  exact bodyPost_ret (v := .agg #[.int .i64 a, .int .i64 b, .int .i64 c, .int .i64 (d + z)]) (by simp [results, Tryz.results32, go_sem, c0, c1, c2, c3, f0, f1, f2, f3]) rfl ⟨by rw [hq.out], (((((hB0.trans (hw'.mono hB0.size)).setCell (p := ⟨w.heap.size + 1, 0, none⟩) (Nat.le_succ _) _).setCell (p := ⟨w.heap.size + 1, 1, none⟩) (Nat.le_succ _) _).setCell (p := ⟨w.heap.size + 1, 2, none⟩) (Nat.le_succ _) _).setCell (p := ⟨w.heap.size + 1, 3, none⟩) (Nat.le_succ _) _)⟩
end Go.Proofs.YtcdpkbcpglaiaaaGreatDoor
