/-
  Necks: the scale, the projection, other angles.
-/
import Derived.Test.YtcdpkbcpglaiaaaNckIn
import Derived.Deep.RegionHeld3
import Derived.Deep.QuietTactic
import Derived.BigQuiet
import Derived.Test.YtcdpkbcpglaiaaaReg
namespace Go.Proofs.Ytcdpkbcpglaiaaa
open Go.ChangeShapes Go.WideShapes Go.ChangeAt Go.RowKit Go.Deep
set_option linter.unusedVariables false
set_option linter.unusedSimpArgs false
set_option maxRecDepth 1000000
set_option maxHeartbeats 1600000 in
theorem projection_any (a : Int) (b : Int) (c : Int) (d : Int) (hb : 100 ≤ b ∧ b ≤ 10000) (hc : 0 ≤ c ∧ c ≤ 500) (hd : 0 ≤ d ∧ d ≤ 300000) (w : World) : Calls Try.prog 26 #[.agg #[.int .i64 a, .int .i64 b, .int .i64 c, .int .i64 d]] w fun e w' => e = .returned (.int .i64 (prjV b c d)) ∧ Below w.heap.size w w' := by
  have hp := prj_bd hb hc hd
  have hq : Hid (c + rnd (b * d) 1000 = prjV b c d) := Lib.hid rfl
  have cN0 := fun W => nearB_any (b * d) 1000 (by decide) (by omega) (by omega) (by decide) (by decide) W
  have hr := rnd1000_bd (p := b * d) (M := 3000000) hp.2.2.1 (by omega)
  obtain ⟨z, hz⟩ : ∃ z, z = rnd (b * d) 1000 := ⟨_, rfl⟩
  rw [← hz] at cN0 hq hr
  have cN := Lib.hid cN0
  have e1 : IntKind.i64.wrap (b * d) = b * d := IntWalk.i64_in _ (by omega)
  have e2 : IntKind.i64.wrap (c + z) = c + z := IntWalk.i64_in _ (by omega)
  clear hz cN0 hp
  go_enter Try.func26, Try.ntmps26
  go_wp2_with fail
  obtain ⟨q1, hB0, hsz⟩ := one_box w #[.int .i64 a, .int .i64 b, .int .i64 c, .int .i64 d] 26
  generalize (w.alloc (.cells #[.int .i64 a, .int .i64 b, .int .i64 c, .int .i64 d] 26)) = W0 at q1 hB0 hsz ⊢
  have hS : ((W0.cell? ⟨w.heap.size, 0, none⟩ = some (.int .i64 a) ∧ W0.cell? ⟨w.heap.size, 1, none⟩ = some (.int .i64 b) ∧ W0.cell? ⟨w.heap.size, 2, none⟩ = some (.int .i64 c) ∧ W0.cell? ⟨w.heap.size, 3, none⟩ = some (.int .i64 d)) ∧ Below W0.heap.size W0 W0) := ⟨⟨q1 0 _ rfl, q1 1 _ rfl, q1 2 _ rfl, q1 3 _ rfl⟩, Below.refl _ _⟩
  have keep : ∀ W1 W2, ((W1.cell? ⟨w.heap.size, 0, none⟩ = some (.int .i64 a) ∧ W1.cell? ⟨w.heap.size, 1, none⟩ = some (.int .i64 b) ∧ W1.cell? ⟨w.heap.size, 2, none⟩ = some (.int .i64 c) ∧ W1.cell? ⟨w.heap.size, 3, none⟩ = some (.int .i64 d)) ∧ Below W0.heap.size W0 W1) → Below W1.heap.size W1 W2 → ((W2.cell? ⟨w.heap.size, 0, none⟩ = some (.int .i64 a) ∧ W2.cell? ⟨w.heap.size, 1, none⟩ = some (.int .i64 b) ∧ W2.cell? ⟨w.heap.size, 2, none⟩ = some (.int .i64 c) ∧ W2.cell? ⟨w.heap.size, 3, none⟩ = some (.int .i64 d)) ∧ Below W0.heap.size W0 W2) := fun W1 W2 h1 h2 => by
    obtain ⟨p0, hb⟩ := h1
    exact ⟨NckAt.below (x := ⟨a, b, c, d⟩) (o := 0) p0 (Nat.lt_of_lt_of_le hsz hb.size) h2, hb.trans (h2.mono hb.size)⟩
  have keepH := Lib.hid keep
  clear keep
  clear q1
  go_wp2
  go_region_held3 (fun w' => ((w'.cell? ⟨w.heap.size, 0, none⟩ = some (.int .i64 a) ∧ w'.cell? ⟨w.heap.size, 1, none⟩ = some (.int .i64 b) ∧ w'.cell? ⟨w.heap.size, 2, none⟩ = some (.int .i64 c) ∧ w'.cell? ⟨w.heap.size, 3, none⟩ = some (.int .i64 d)) ∧ Below W0.heap.size W0 w'))
    (first | exact ⟨hS.1, belowN hS.2 1⟩ | exact keepH.out _ _ (by assumption) (by assumption) | assumption)
    (first | (go_at_call 36; (with_reducible refine (cN.out _).mono ?_); rintro e w' ⟨rfl, hbel⟩))
  rename_i hHeld
  go_wp2
  go_ret
  exact ⟨ret_int hq.out, below2 hB0 hHeld.2⟩
/-- the angle with a shim -/
def shmV (d k j : Int) : Int := d + rnd (1000 * k) j
theorem shm_bd {d k j : Int} (hd : 0 ≤ d ∧ d ≤ 300) (hk : 0 ≤ k ∧ k ≤ 200) (hj : 1 ≤ j ∧ j ≤ 1000) : 0 ≤ rnd (1000 * k) j ∧ rnd (1000 * k) j ≤ 200001 ∧ 0 ≤ shmV d k j ∧ shmV d k j ≤ 200301 := by
  have h1 := rnd_bd (1000 * k) j (by omega)
  have h0 : 0 ≤ rnd (1000 * k) j := by
    unfold rnd
    rw [if_neg (by omega), if_neg (by omega), rp_pos (by omega)]
    exact Int.ediv_nonneg (by omega) (by omega)
  unfold shmV
  omega
theorem calm_ret {w : World} {f : FuncId} {args : Array Value} {w' : World} {v : Value} (hw' : Below w.heap.size w w') (h : Calls Try.prog f args w' fun e w'' => e = .returned v ∧ Below w'.heap.size w' w'') : Calls Try.prog f args w' fun e w'' => e = .returned v ∧ Below w.heap.size w w'' :=
  h.mono (by rintro e w'' ⟨rfl, hb⟩; exact ⟨rfl, below2 hw' hb⟩)
/-- the model's projection, by a pointer -/
theorem l10High_any (a : Int) (b : Int) (c : Int) (d : Int) (p : Int) (hb : 100 ≤ b ∧ b ≤ 10000) (hc : 0 ≤ c ∧ c ≤ 500) (hp : 0 ≤ p ∧ p ≤ 300000) (w : World) (g o : Nat) (hat : NckAt w g o ⟨a, b, c, d⟩) : Calls Try.prog 28 #[.pointer (some ⟨g, o, none⟩), .int .i64 p] w fun e w' => e = .returned (.int .i64 (prjV b c p)) ∧ ∃ m, w' = w.drewN m := by
  obtain ⟨c0, c1, c2, c3⟩ := hat
  simp only at c0 c1 c2 c3
  have hpp := prj_bd hb hc hp
  have hq : Hid (c + rnd (b * p) 1000 = prjV b c p) := Lib.hid rfl
  have cN0 := fun n => l01Div_any (b * p) 1000 (by decide) (by omega) (by omega) (by decide) (by decide) (w.drewN n)
  have hr := rnd1000_bd (p := b * p) (M := 3000000) hpp.2.2.1 (by omega)
  obtain ⟨z, hz⟩ : ∃ z, z = rnd (b * p) 1000 := ⟨_, rfl⟩
  rw [← hz] at cN0 hq hr
  have cN := Lib.hid cN0
  have e1 : IntKind.i64.wrap (b * p) = b * p := IntWalk.i64_in _ (by omega)
  have e2 : IntKind.i64.wrap (c + z) = c + z := IntWalk.i64_in _ (by omega)
  clear hz cN0 hpp
  go_enter Try.func28, Try.ntmps28
  go_wp2
  go_quiet ((go_at_call 39; (with_reducible exact Qs (cN.out _))))
  go_wp2
  go_ret
  exact ⟨ret_int hq.out, _, rfl⟩
end Go.Proofs.Ytcdpkbcpglaiaaa
