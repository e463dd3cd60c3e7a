/-
  Strings of an instrument: the highest pitch and the least gauge, by the program.
-/
import Derived.Test.YtnenccfmopjcjaaCrdM
import Derived.Deep.RegionHeld3
namespace Go.Proofs.Ytnenccfmopjcjaa
open Go.ChangeShapes Go.WideShapes Go.ChangeAt Go.RowKit Go.Deep
set_option linter.unusedVariables false
set_option linter.unusedSimpArgs false
set_option maxRecDepth 1000000
set_option maxHeartbeats 1000000 in
theorem withGauge_any (a : Int) (b : Int) (c : Int) (d : Int) (p : Int) (w : World) : Calls Try.prog 14 #[.agg #[.int .i64 a, .int .i64 b, .int .i64 c, .int .i64 d], .int .i64 p] w fun e w' => e = .returned (.agg #[.int .i64 a, .int .i64 b, .int .i64 p, .int .i64 d]) ∧ Below w.heap.size w w' := by
  go_enter Try.func14, Try.ntmps14
  go_wp2
  exact bodyPost_ret (v := .agg #[.int .i64 a, .int .i64 b, .int .i64 p, .int .i64 d]) (by simp [results, Try.results14, go_sem]) rfl ⟨rfl, (((Below.refl _ _).alloc (Nat.le_refl _) _).alloc (by simp) _)⟩
set_option maxHeartbeats 1600000 in
theorem lg1_any (a : Int) (b : Int) (c : Int) (d : Int) (z : Int) (ha : 1 ≤ a ∧ a ≤ 10000) (hb : 1 ≤ b ∧ b ≤ 500) (bx bz i : Nat) (hi : i < 10000) (wr : World) (hat2 : CrdAt wr bx 0 ⟨a, b, c, d⟩) (hzz : wr.cell? ⟨bz, 0, none⟩ = some (.int .i64 z)) :
    Calls Try.prog 13 #[.int .i64 ((i : Int) + 1), .pointer (some ⟨bx, 0, none⟩), .pointer (some ⟨bz, 0, none⟩)] wr fun e w' => e = .returned (.bool (lgP a b z i)) ∧ Below wr.heap.size wr w' := by
  have hxl : bx < wr.heap.size := World.block_lt_of_cell? wr _ hat2.1
  have hzl : bz < wr.heap.size := World.block_lt_of_cell? wr _ hzz
  have e1 : IntKind.i64.wrap ((i : Int) + 1) = (i : Int) + 1 := IntWalk.i64_in _ (by omega)
  have cW := Lib.hid (fun W => withGauge_any a b c d ((i : Int) + 1) W)
  have cH := Lib.hid (fun W => tension_any a b ((i : Int) + 1) d ha hb (by omega) W)
  have hp : Hid (lgP a b z i = decide (z ≤ tenV a b ((i : Int) + 1))) := Lib.hid rfl
  obtain ⟨q, hq⟩ : ∃ q, q = tenV a b ((i : Int) + 1) := ⟨_, rfl⟩
  rw [← hq] at cH hp
  clear hq
  have keep : ∀ W1 W2, (((W1.cell? ⟨bx, 0, none⟩ = some (.int .i64 a) ∧ W1.cell? ⟨bx, 1, none⟩ = some (.int .i64 b) ∧ W1.cell? ⟨bx, 2, none⟩ = some (.int .i64 c) ∧ W1.cell? ⟨bx, 3, none⟩ = some (.int .i64 d)) ∧ W1.cell? ⟨bz, 0, none⟩ = some (.int .i64 z)) ∧ Below wr.heap.size wr W1) → Below W1.heap.size W1 W2 → (((W2.cell? ⟨bx, 0, none⟩ = some (.int .i64 a) ∧ W2.cell? ⟨bx, 1, none⟩ = some (.int .i64 b) ∧ W2.cell? ⟨bx, 2, none⟩ = some (.int .i64 c) ∧ W2.cell? ⟨bx, 3, none⟩ = some (.int .i64 d)) ∧ W2.cell? ⟨bz, 0, none⟩ = some (.int .i64 z)) ∧ Below wr.heap.size wr W2) := fun W1 W2 h1 h2 => by
    obtain ⟨⟨p0, p1⟩, hb⟩ := h1
    have q0 := CrdAt.below (x := ⟨a, b, c, d⟩) (o := 0) p0 (Nat.lt_of_lt_of_le hxl hb.size) h2
    have q1 := (h2.cell (p := ⟨bz, 0, none⟩) (Nat.lt_of_lt_of_le hzl hb.size)).trans p1
    exact ⟨⟨q0, q1⟩, hb.trans (h2.mono hb.size)⟩
  have keepH := Lib.hid keep
  have hS : (((wr.cell? ⟨bx, 0, none⟩ = some (.int .i64 a) ∧ wr.cell? ⟨bx, 1, none⟩ = some (.int .i64 b) ∧ wr.cell? ⟨bx, 2, none⟩ = some (.int .i64 c) ∧ wr.cell? ⟨bx, 3, none⟩ = some (.int .i64 d)) ∧ wr.cell? ⟨bz, 0, none⟩ = some (.int .i64 z)) ∧ Below wr.heap.size wr wr) := ⟨⟨hat2, hzz⟩, Below.refl _ _⟩
  clear keep hat2 hzz
  go_enter Try.func13, Try.ntmps13
  go_wp2
  go_region_held3 (fun w' => (((w'.cell? ⟨bx, 0, none⟩ = some (.int .i64 a) ∧ w'.cell? ⟨bx, 1, none⟩ = some (.int .i64 b) ∧ w'.cell? ⟨bx, 2, none⟩ = some (.int .i64 c) ∧ w'.cell? ⟨bx, 3, none⟩ = some (.int .i64 d)) ∧ w'.cell? ⟨bz, 0, none⟩ = some (.int .i64 z)) ∧ Below wr.heap.size wr w'))
    (first | exact ⟨hS.1, belowN hS.2 1⟩ | exact keepH.out _ _ (by assumption) (by assumption) | assumption)
    (first | (go_at_call 14; (with_reducible refine (cW.out _).mono ?_); rintro e w' ⟨rfl, hbel⟩) | (go_at_call 15; (with_reducible refine (cH.out _).mono ?_); rintro e w' ⟨rfl, hbel⟩))
  rename_i hHeld
  go_wp2
  go_ret
  exact ⟨ret_bool hp.out.symm, hHeld.2⟩
theorem lf_lg (r : Nat) : lfV 1 r 10000 = lgV r ∧ lfC r 10000 = lgC r := by
  unfold lfV lgV lfC lgC
  by_cases h : r = 10000
  · simp only [if_pos h]; exact ⟨trivial, trivial⟩
  · simp only [if_neg h]; exact ⟨by omega, trivial⟩
set_option maxHeartbeats 3200000 in
theorem implLeastGauge_any (a : Int) (b : Int) (c : Int) (d : Int) (z : Int) (w : World) : Calls Try.prog 6 #[.agg #[.int .i64 a, .int .i64 b, .int .i64 c, .int .i64 d], .int .i64 z] w fun e w' => e = .returned (.tuple #[.int .i64 (pick (crdB ⟨a, b, c, d⟩ && inB z 0 500000) (lgV (lstN (lgP a b z) 10000))), .int .i64 (cod3 (crdB ⟨a, b, c, d⟩) (inB z 0 500000) (lgC (lstN (lgP a b z) 10000)))]) ∧ Below w.heap.size w w' := by
  have hB0 : Below w.heap.size w ((w.alloc (.cells #[.int .i64 a, .int .i64 b, .int .i64 c, .int .i64 d] 26)).alloc (.cells #[.int .i64 z] 2)) := ((Below.refl _ _).alloc (Nat.le_refl _) _).alloc (by simp) _
  have hz0 : w.heap.size ≤ ((w.alloc (.cells #[.int .i64 a, .int .i64 b, .int .i64 c, .int .i64 d] 26)).alloc (.cells #[.int .i64 z] 2)).heap.size := by simp <;> omega
  have hzz : ((w.alloc (.cells #[.int .i64 a, .int .i64 b, .int .i64 c, .int .i64 d] 26)).alloc (.cells #[.int .i64 z] 2)).heap.size = w.heap.size + 2 := by simp
  have x1 : CrdAt ((w.alloc (.cells #[.int .i64 a, .int .i64 b, .int .i64 c, .int .i64 d] 26)).alloc (.cells #[.int .i64 z] 2)) w.heap.size 0 ⟨a, b, c, d⟩ := (crd_box a b c d w).below (by simp) ((Below.refl _ _).alloc (Nat.le_refl _) _)
  have x2 : ((w.alloc (.cells #[.int .i64 a, .int .i64 b, .int .i64 c, .int .i64 d] 26)).alloc (.cells #[.int .i64 z] 2)).cell? ⟨w.heap.size + 1, 0, none⟩ = some (.int .i64 z) := cellB (by rw [show w.heap.size + 1 = (w.alloc (.cells #[.int .i64 a, .int .i64 b, .int .i64 c, .int .i64 d] 26)).heap.size by simp]; exact heap_alloc_new _ _) 0 _ rfl
  have cV := fun W => implValidString_any a b c d W
  cases h1 : crdB ⟨a, b, c, d⟩ <;> rw [h1] at cV
  · go_enter Try.func6, Try.ntmps6
    go_wp2_with (go_at_call 10; refine (cV _).mono ?_; rintro e w1 ⟨rfl, b1⟩; have C1 := bcell b1)
    go_ret2
    exact ⟨ret_int2 rfl rfl, hB0.trans (b1.mono hz0)⟩
  cases h2 : inB z 0 500000
  · go_enter Try.func6, Try.ntmps6
    go_wp2_with (first
      | (go_at_call 10; refine (cV _).mono ?_; rintro e w1 ⟨rfl, b1⟩; have C1 := bcell b1)
      | (go_at_call 11; refine (within64_any _ _ _ _).mono ?_; rw [h2]; rintro e w' ⟨rfl, rfl⟩))
    go_ret2
    exact ⟨ret_int2 rfl rfl, hB0.trans (b1.mono hz0)⟩
  obtain ⟨ha, hb, hc, hd⟩ := crd_bd h1
  have hz := inB_iff.1 h2
  go_enter Try.func6, Try.ntmps6
  go_wp2_with fail
  refine (cV _).mono ?_
  rintro e w1 ⟨rfl, b1⟩
  have C1 := bcell b1
  go_wp2_with (go_at_call 11; refine (within64_any _ _ _ _).mono ?_; rw [h2]; rintro e w' ⟨rfl, rfl⟩)
  have y1 : CrdAt w1 w.heap.size 0 ⟨a, b, c, d⟩ := x1.below (by omega) b1
  have y2 : w1.cell? ⟨w.heap.size + 1, 0, none⟩ = some (.int .i64 z) := (b1.cell (p := ⟨w.heap.size + 1, 0, none⟩) (show w.heap.size + 1 < _ by omega)).trans x2
  have B1 := hB0.trans (b1.mono hz0)
  have hl1 : w.heap.size + 2 ≤ w1.heap.size := by have := b1.size; omega
  have h9 := leastFrom_any 13 #[.pointer (some ⟨w.heap.size, 0, none⟩), .pointer (some ⟨w.heap.size + 1, 0, none⟩)] 1 10000 10000 (lgP a b z) w1 (enters_of Try.func13 (by kernel_rfl) rfl) (by omega) (by omega) (by omega) (by omega) (fun W i hW hi => by
      rw [Int.add_comm]
      exact lg1_any a b c d z ha hb w.heap.size (w.heap.size + 1) i hi W (y1.below (by omega) hW) ((hW.cell (p := ⟨w.heap.size + 1, 0, none⟩) (show w.heap.size + 1 < _ by omega)).trans y2)) (fun i j hij hj h => lg_mono (by omega) (by omega) i j hij h)
  rw [(lf_lg _).1, (lf_lg _).2] at h9
  have cF := Lib.hid h9
  have B1' := Lib.hid B1
  clear hB0 C1 b1 x1 x2 y1 y2 hz0 hzz hl1 B1 cV h9
  go_wp2_with (go_at_call 12; (with_reducible refine cF.out.mono ?_); rintro e w2 ⟨rfl, b2⟩)
  go_ret2
  exact ⟨ret_int2 rfl rfl, below2 B1'.out b2⟩
end Go.Proofs.Ytnenccfmopjcjaa
