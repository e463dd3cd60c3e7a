/-
  Rows of Arc: marked and held, and what lies there.
-/
import Derived.Test.YtdgkpghecfpgoaaArcsM
namespace Go.Proofs.Ytdgkpghecfpgoaa
open Go.ChangeShapes Go.WideShapes Go.ChangeAt Go.RowKit Go.Deep
set_option linter.unusedVariables false
set_option linter.unusedSimpArgs false
set_option maxRecDepth 1000000
theorem arc_marks {w : World} {g n j k0 m : Nat} (hm : m = k0 + j * 6) (hth : w.there g 0 (n * 6)) (hjn : j * 6 + 6 ≤ n * 6) (hd : ∀ i, i < j * 6 → w.cell? ⟨g, i, none⟩ = some (.int .i64 ((k0 + i : Nat) : Int))) : ∀ i, i < (j + 1) * 6 → (w.setCells g (j * 6) [.int .i64 ((m : Int)), .int .i64 ((m : Int) + 1), .int .i64 ((m : Int) + 1 + 1), .int .i64 ((m : Int) + 1 + 1 + 1), .int .i64 ((m : Int) + 1 + 1 + 1 + 1), .int .i64 ((m : Int) + 1 + 1 + 1 + 1 + 1)]).cell? ⟨g, i, none⟩ = some (.int .i64 ((k0 + i : Nat) : Int)) := by
  intro i hi
  rcases Nat.lt_or_ge i (j * 6) with h | h
  · have h1 : w.rangeAt g i [.int .i64 ((k0 + i : Nat) : Int)] := fun q v hv => by
      match q, hv with
      | 0, hv => rw [Nat.add_zero, hd i h]; exact hv
      | q + 1, hv => simp at hv
    exact World.rangeAt_setCells_apart h1 _ _ _ (Or.inr (Or.inl (by simp; omega))) 0 _ rfl
  · obtain ⟨q, rfl⟩ : ∃ q, i = j * 6 + q := ⟨i - j * 6, by omega⟩
    have hq : q < 6 := by omega
    match q, hq with
      | 0, _ => refine (World.rangeAt_setCells_same w g (j * 6) [.int .i64 ((m : Int)), .int .i64 ((m : Int) + 1), .int .i64 ((m : Int) + 1 + 1), .int .i64 ((m : Int) + 1 + 1 + 1), .int .i64 ((m : Int) + 1 + 1 + 1 + 1), .int .i64 ((m : Int) + 1 + 1 + 1 + 1 + 1)] (there_part hth _ _ (by simpa using hjn)) 0 _ rfl).trans ?_; congr 2; omega
      | 1, _ => refine (World.rangeAt_setCells_same w g (j * 6) [.int .i64 ((m : Int)), .int .i64 ((m : Int) + 1), .int .i64 ((m : Int) + 1 + 1), .int .i64 ((m : Int) + 1 + 1 + 1), .int .i64 ((m : Int) + 1 + 1 + 1 + 1), .int .i64 ((m : Int) + 1 + 1 + 1 + 1 + 1)] (there_part hth _ _ (by simpa using hjn)) 1 _ rfl).trans ?_; congr 2; omega
      | 2, _ => refine (World.rangeAt_setCells_same w g (j * 6) [.int .i64 ((m : Int)), .int .i64 ((m : Int) + 1), .int .i64 ((m : Int) + 1 + 1), .int .i64 ((m : Int) + 1 + 1 + 1), .int .i64 ((m : Int) + 1 + 1 + 1 + 1), .int .i64 ((m : Int) + 1 + 1 + 1 + 1 + 1)] (there_part hth _ _ (by simpa using hjn)) 2 _ rfl).trans ?_; congr 2; omega
      | 3, _ => refine (World.rangeAt_setCells_same w g (j * 6) [.int .i64 ((m : Int)), .int .i64 ((m : Int) + 1), .int .i64 ((m : Int) + 1 + 1), .int .i64 ((m : Int) + 1 + 1 + 1), .int .i64 ((m : Int) + 1 + 1 + 1 + 1), .int .i64 ((m : Int) + 1 + 1 + 1 + 1 + 1)] (there_part hth _ _ (by simpa using hjn)) 3 _ rfl).trans ?_; congr 2; omega
      | 4, _ => refine (World.rangeAt_setCells_same w g (j * 6) [.int .i64 ((m : Int)), .int .i64 ((m : Int) + 1), .int .i64 ((m : Int) + 1 + 1), .int .i64 ((m : Int) + 1 + 1 + 1), .int .i64 ((m : Int) + 1 + 1 + 1 + 1), .int .i64 ((m : Int) + 1 + 1 + 1 + 1 + 1)] (there_part hth _ _ (by simpa using hjn)) 4 _ rfl).trans ?_; congr 2; omega
      | 5, _ => refine (World.rangeAt_setCells_same w g (j * 6) [.int .i64 ((m : Int)), .int .i64 ((m : Int) + 1), .int .i64 ((m : Int) + 1 + 1), .int .i64 ((m : Int) + 1 + 1 + 1), .int .i64 ((m : Int) + 1 + 1 + 1 + 1), .int .i64 ((m : Int) + 1 + 1 + 1 + 1 + 1)] (there_part hth _ _ (by simpa using hjn)) 5 _ rfl).trans ?_; congr 2; omega
set_option maxHeartbeats 3200000 in
theorem markArcS_row (g n cap k0 : Nat) (w : World) (hn : n ≤ 1048576) (hk0 : 0 < k0) (hk1 : k0 ≤ 1000000000) (hg : g < w.heap.size) (hth : w.there g 0 (n * 6)) : Calls Try.prog 30 #[.slice (some ⟨g, 0, none⟩) n cap, .int .i64 k0] w fun e w' => e = .returned (.int .i64 ((k0 + n * 6 : Nat) : Int)) ∧ w.grownBy w' (some g) ∧ ∀ i, i < n * 6 → w'.cell? ⟨g, i, none⟩ = some (.int .i64 ((k0 + i : Nat) : Int)) := by
  have hth' := Lib.hid hth
  clear hth
  go_enter Try.func30, Try.ntmps30
  go_wp2
  go_loopw [1, 5] (fun q i wr => ∃ j m : Nat, j ≤ n ∧ i = .int .i64 j ∧ q = .int .i64 m ∧ 0 < m ∧ m ≤ 2000000000 ∧ Hid (m = k0 + j * 6) ∧ Hid (wr.there g 0 (n * 6)) ∧ g < wr.heap.size ∧ Hid (w.grownBy wr (some g)) ∧ Hid (∀ i, i < j * 6 → wr.cell? ⟨g, i, none⟩ = some (.int .i64 ((k0 + i : Nat) : Int)))) (fun _ i _ => n - (intOf i).toNat)
  case atStart => exact ⟨0, k0, by omega, rfl, rfl, hk0, by omega, Lib.hid (by omega), hth', hg, Lib.hid (World.grownBy.refl _ _), Lib.hid (fun i hi => absurd hi (by omega))⟩
  case round =>
    obtain ⟨j, m, hj, rfl, rfl, hm0, hm1, hm, hth2, hlt2, hgr, hd⟩ := hrel
    have hm' := hm.out
    by_cases hlt : j < n
    · have hjI : (j : Int) < (n : Int) := by omega
      have hm2 : m ≤ 1999999000 := by omega
      have hmI : (m : Int) ≤ 1999999000 := by omega
      have hmn : Hid (m + 6 = k0 + (j + 1) * 6) := Lib.hid (by omega)
      have hjn : Hid (j * 6 + 6 ≤ n * 6) := Lib.hid (by omega)
      have hd2 := Lib.hid (arc_marks hm.out hth2.out hjn.out hd.out)
      clear hm'
      obtain ⟨⟨y0, c0⟩, f0⟩ := there_cells hth2.out (j * 6) (by have := hjn.out; omega)
      obtain ⟨⟨y1, c1⟩, f1⟩ := there_cells hth2.out (j * 6 + 1) (by have := hjn.out; omega)
      obtain ⟨⟨y2, c2⟩, f2⟩ := there_cells hth2.out (j * 6 + 2) (by have := hjn.out; omega)
      obtain ⟨⟨y3, c3⟩, f3⟩ := there_cells hth2.out (j * 6 + 3) (by have := hjn.out; omega)
      obtain ⟨⟨y4, c4⟩, f4⟩ := there_cells hth2.out (j * 6 + 4) (by have := hjn.out; omega)
      obtain ⟨⟨y5, c5⟩, f5⟩ := there_cells hth2.out (j * 6 + 5) (by have := hjn.out; omega)
      go_wp2
      go_roundw
      case rel => exact ⟨j + 1, m + 6, by omega, by go_num, by go_num, by omega, by omega, hmn, Lib.hid (World.there_setCells hth2.out g (j * 6) [.int .i64 ((m : Int)), .int .i64 ((m : Int) + 1), .int .i64 ((m : Int) + 1 + 1), .int .i64 ((m : Int) + 1 + 1 + 1), .int .i64 ((m : Int) + 1 + 1 + 1 + 1), .int .i64 ((m : Int) + 1 + 1 + 1 + 1 + 1)]), by simp; omega, Lib.hid (gtrans hgr.out (grown_sets g [.int .i64 ((m : Int)), .int .i64 ((m : Int) + 1), .int .i64 ((m : Int) + 1 + 1), .int .i64 ((m : Int) + 1 + 1 + 1), .int .i64 ((m : Int) + 1 + 1 + 1 + 1), .int .i64 ((m : Int) + 1 + 1 + 1 + 1 + 1)] (j * 6) _)), hd2⟩
      case measure => simp [intOf]; omega
    · obtain rfl : j = n := by omega
      have hm3 : Hid (m = k0 + j * 6) := hm
      clear hm'
      go_wp2
      go_ret
      exact ⟨ret_int (by rw [hm3.out]), hgr.out, hd.out⟩
set_option maxHeartbeats 3200000 in
theorem heldArcS_row (g n cap k0 : Nat) (w : World) (hn : n ≤ 1048576) (hk0 : 0 < k0) (hk1 : k0 ≤ 1000000000) (hc0 : ∀ i, i < n * 6 → w.cell? ⟨g, i, none⟩ = some (.int .i64 ((k0 + i : Nat) : Int))) : Calls Try.prog 37 #[.slice (some ⟨g, 0, none⟩) n cap, .int .i64 k0] w fun e w' => e = .returned (.int .i64 ((k0 + n * 6 : Nat) : Int)) ∧ ∃ d, w' = w.drewN d := by
  have hc := Lib.hid hc0
  clear hc0
  go_enter Try.func37, Try.ntmps37
  go_wp2
  go_loopw [1, 5] (fun q i wr => ∃ j m d : Nat, j ≤ n ∧ i = .int .i64 j ∧ q = .int .i64 m ∧ 0 < m ∧ m ≤ 2000000000 ∧ Hid (m = k0 + j * 6) ∧ wr = w.drewN d) (fun _ i _ => n - (intOf i).toNat)
  case atStart => exact ⟨0, k0, 0, by omega, rfl, rfl, hk0, by omega, Lib.hid (by omega), rfl⟩
  case round =>
    obtain ⟨j, m, dd, hj, rfl, rfl, hm0, hm1, hm, rfl⟩ := hrel
    have hm' := hm.out
    by_cases hlt : j < n
    · have hjI : (j : Int) < (n : Int) := by omega
      have hm2 : m ≤ 1999999000 := by omega
      have hmI : (m : Int) ≤ 1999999000 := by omega
      have hmn : Hid (m + 6 = k0 + (j + 1) * 6) := Lib.hid (by omega)
      have c0 : w.cell? ⟨g, j * 6, none⟩ = some (.int .i64 ((m : Int))) := by rw [hc.out (j * 6) (by omega), hm.out]; try (congr 2 <;> omega)
      have c1 : w.cell? ⟨g, j * 6 + 1, none⟩ = some (.int .i64 ((m : Int) + 1)) := by rw [hc.out (j * 6 + 1) (by omega), hm.out]; try (congr 2 <;> omega)
      have c2 : w.cell? ⟨g, j * 6 + 2, none⟩ = some (.int .i64 ((m : Int) + 1 + 1)) := by rw [hc.out (j * 6 + 2) (by omega), hm.out]; try (congr 2 <;> omega)
      have c3 : w.cell? ⟨g, j * 6 + 3, none⟩ = some (.int .i64 ((m : Int) + 1 + 1 + 1)) := by rw [hc.out (j * 6 + 3) (by omega), hm.out]; try (congr 2 <;> omega)
      have c4 : w.cell? ⟨g, j * 6 + 4, none⟩ = some (.int .i64 ((m : Int) + 1 + 1 + 1 + 1)) := by rw [hc.out (j * 6 + 4) (by omega), hm.out]; try (congr 2 <;> omega)
      have c5 : w.cell? ⟨g, j * 6 + 5, none⟩ = some (.int .i64 ((m : Int) + 1 + 1 + 1 + 1 + 1)) := by rw [hc.out (j * 6 + 5) (by omega), hm.out]; try (congr 2 <;> omega)
      clear hm'
      go_wp2
      go_roundw
      case rel => exact ⟨j + 1, m + 6, dd, by omega, by go_num, by go_num, by omega, by omega, hmn, rfl⟩
      case measure => simp [intOf]; omega
    · obtain rfl : j = n := by omega
      have hm3 : Hid (m = k0 + j * 6) := hm
      clear hm'
      go_wp2
      go_ret
      exact ⟨ret_int (by rw [hm3.out]), dd, rfl⟩
end Go.Proofs.Ytdgkpghecfpgoaa
