/-
  The first greatest of numbers that a closure tells, and least multiples: the program's contracts.
-/
import Derived.Test.YtjnpladpegmiiaaBowMath
import Derived.Test.YtjnpladpegmiiaaUnits
import Derived.Test.YtjnpladpegmiiaaMem
import Derived.Laws.EntriesVeiled
import Derived.Shelf.RegionOpenPlain
namespace Go.Proofs.Ytjnpladpegmiiaa
open Go.ChangeShapes Go.WideShapes Go.ChangeAt Go.RowKit Go.Deep
set_option linter.unusedVariables false
set_option linter.unusedSimpArgs false
set_option maxRecDepth 1000000
set_option maxHeartbeats 3200000 in
theorem firstGreatest_any (g : Nat) (cb : Array Value) (n : Nat) (f : Nat → Int) (w : World) (eg : ∀ args w, (callFunc g args).run Try.prog w = .ok (.enter g args) w) (hn0 : 1 ≤ n) (hn : n ≤ 1000000)
    (hf : ∀ (W : World) (i : Nat), Below w.heap.size w W → i < n → Calls Try.prog g (#[.int .i64 (i : Int)] ++ cb) W fun e w' => e = .returned (.int .i64 (f i)) ∧ Below W.heap.size W w') :
    Calls Try.prog 69 #[.int .i64 n, .func (.func g) #[] cb] w fun e w' => e = .returned (.tuple #[.int .i64 (fgI f n : Nat), .int .i64 (f (fgI f n))]) ∧ Below w.heap.size w w' := by
  have hf' := Lib.hid hf
  have h0 := hf w 0 (Below.refl _ _) (by omega)
  have h0' : Calls Try.prog g (#[.int .i64 0] ++ cb) w fun e w' => e = .returned (.int .i64 (f 0)) ∧ Below w.heap.size w w' := h0
  have hc := Lib.hid h0'
  obtain ⟨z, hz⟩ : ∃ z, z = f 0 := ⟨_, rfl⟩
  rw [← hz] at hc
  have hz' : Hid (z = f (fgI f 0)) := Lib.hid hz
  clear hf h0 h0' hz
  go_enter Try.func69, Try.ntmps69
  go_wp2_with (go_at_fn g; refine hc.out.mono ?_; rintro e w1 ⟨rfl, b1⟩)
  go_loopw [6, 7, 13] (fun q r i wr => ∃ (k x : Nat) (y : Int), k ≤ n ∧ i = .int .i64 k ∧ q = .int .i64 x ∧ r = .int .i64 y ∧ Hid (x = fgI f k) ∧ Hid (y = f (fgI f k)) ∧ Hid (Below w.heap.size w wr)) (fun _ _ i _ => n - (intOf i).toNat)
  case atStart => exact ⟨0, 0, z, by omega, rfl, rfl, rfl, Lib.hid rfl, hz', Lib.hid b1⟩
  case round =>
    obtain ⟨k, x, y, hk, rfl, rfl, rfl, hx, hy, hbR⟩ := hrel
    by_cases hlt : k < n
    · have hltI : (k : Int) < (n : Int) := by omega
      have hC0 := hf'.out wr k hbR.out hlt
      obtain ⟨u, hu⟩ : ∃ u, u = f k := ⟨_, rfl⟩
      rw [← hu] at hC0
      have hC := Lib.hid hC0
      clear hC0
      by_cases hgt : y < u
      · have hn1 : Hid (fgI f (k + 1) = k) := Lib.hid (by show (if f (fgI f k) < f k then k else fgI f k) = k; rw [← hy.out, ← hu, if_pos hgt])
        have hu' : Hid (u = f (fgI f (k + 1))) := Lib.hid (by rw [hn1.out, hu])
        clear hu
        go_wp2_with (go_at_fn g; refine hC.out.mono ?_; rintro e w2 ⟨rfl, b2⟩)
        go_roundw
        case rel => exact ⟨k + 1, k, u, by omega, by go_num, rfl, rfl, Lib.hid hn1.out.symm, hu', Lib.hid (below2 hbR.out b2)⟩
        case measure => simp [intOf]; omega
      · have hn1 : Hid (fgI f (k + 1) = fgI f k) := Lib.hid (by show (if f (fgI f k) < f k then k else fgI f k) = fgI f k; rw [← hy.out, ← hu, if_neg hgt])
        clear hu
        go_wp2_with (go_at_fn g; refine hC.out.mono ?_; rintro e w2 ⟨rfl, b2⟩)
        go_roundw
        case rel => exact ⟨k + 1, x, y, by omega, by go_num, rfl, rfl, Lib.hid (by rw [hn1.out]; exact hx.out), Lib.hid (by rw [hn1.out]; exact hy.out), Lib.hid (below2 hbR.out b2)⟩
        case measure => simp [intOf]; omega
    · obtain rfl : k = n := by omega
      go_wp2
      go_ret2
      exact ⟨ret_int2 (by rw [hx.out]) hy.out, hbR.out⟩
set_option maxHeartbeats 3200000 in
theorem firstGreatestB_any (g : Nat) (r : Value) (n : Nat) (f : Nat → Int) (w : World) (eg : ∀ args w, (callFunc g args).run Try.prog w = .ok (.enter g args) w) (hn0 : 1 ≤ n) (hn : n ≤ 1000000)
    (hf : ∀ (W : World) (i : Nat), Below w.heap.size w W → i < n → Calls Try.prog g #[r, .int .i64 (i : Int)] W fun e w' => e = .returned (.int .i64 (f i)) ∧ Below W.heap.size W w') :
    Calls Try.prog 69 #[.int .i64 n, .func (.func g) #[r] #[]] w fun e w' => e = .returned (.tuple #[.int .i64 (fgI f n : Nat), .int .i64 (f (fgI f n))]) ∧ Below w.heap.size w w' := by
  have hf' := Lib.hid hf
  have h0 := hf w 0 (Below.refl _ _) (by omega)
  have h0' : Calls Try.prog g #[r, .int .i64 0] w fun e w' => e = .returned (.int .i64 (f 0)) ∧ Below w.heap.size w w' := h0
  have hc := Lib.hid h0'
  obtain ⟨z, hz⟩ : ∃ z, z = f 0 := ⟨_, rfl⟩
  rw [← hz] at hc
  have hz' : Hid (z = f (fgI f 0)) := Lib.hid hz
  clear hf h0 h0' hz
  go_enter Try.func69, Try.ntmps69
  go_wp2_with (go_at_fn g; refine hc.out.mono ?_; rintro e w1 ⟨rfl, b1⟩)
  go_loopw [6, 7, 13] (fun q r i wr => ∃ (k x : Nat) (y : Int), k ≤ n ∧ i = .int .i64 k ∧ q = .int .i64 x ∧ r = .int .i64 y ∧ Hid (x = fgI f k) ∧ Hid (y = f (fgI f k)) ∧ Hid (Below w.heap.size w wr)) (fun _ _ i _ => n - (intOf i).toNat)
  case atStart => exact ⟨0, 0, z, by omega, rfl, rfl, rfl, Lib.hid rfl, hz', Lib.hid b1⟩
  case round =>
    obtain ⟨k, x, y, hk, rfl, rfl, rfl, hx, hy, hbR⟩ := hrel
    by_cases hlt : k < n
    · have hltI : (k : Int) < (n : Int) := by omega
      have hC0 := hf'.out wr k hbR.out hlt
      obtain ⟨u, hu⟩ : ∃ u, u = f k := ⟨_, rfl⟩
      rw [← hu] at hC0
      have hC := Lib.hid hC0
      clear hC0
      by_cases hgt : y < u
      · have hn1 : Hid (fgI f (k + 1) = k) := Lib.hid (by show (if f (fgI f k) < f k then k else fgI f k) = k; rw [← hy.out, ← hu, if_pos hgt])
        have hu' : Hid (u = f (fgI f (k + 1))) := Lib.hid (by rw [hn1.out, hu])
        clear hu
        go_wp2_with (go_at_fn g; refine hC.out.mono ?_; rintro e w2 ⟨rfl, b2⟩)
        go_roundw
        case rel => exact ⟨k + 1, k, u, by omega, by go_num, rfl, rfl, Lib.hid hn1.out.symm, hu', Lib.hid (below2 hbR.out b2)⟩
        case measure => simp [intOf]; omega
      · have hn1 : Hid (fgI f (k + 1) = fgI f k) := Lib.hid (by show (if f (fgI f k) < f k then k else fgI f k) = fgI f k; rw [← hy.out, ← hu, if_neg hgt])
        clear hu
        go_wp2_with (go_at_fn g; refine hC.out.mono ?_; rintro e w2 ⟨rfl, b2⟩)
        go_roundw
        case rel => exact ⟨k + 1, x, y, by omega, by go_num, rfl, rfl, Lib.hid (by rw [hn1.out]; exact hx.out), Lib.hid (by rw [hn1.out]; exact hy.out), Lib.hid (below2 hbR.out b2)⟩
        case measure => simp [intOf]; omega
    · obtain rfl : k = n := by omega
      go_wp2
      go_ret2
      exact ⟨ret_int2 (by rw [hx.out]) hy.out, hbR.out⟩
end Go.Proofs.Ytjnpladpegmiiaa
