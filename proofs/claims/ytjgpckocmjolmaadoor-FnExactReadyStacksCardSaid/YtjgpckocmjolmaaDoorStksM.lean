/-
  Rows of Stack: the law's marks.
-/
import Derived.Test.YtjgpckocmjolmaaDoorStks2
import Derived.Test.YtjgpckocmjolmaaDoorMark
namespace Go.Proofs.YtjgpckocmjolmaaDoor
open Go.ChangeShapes Go.WideShapes Go.ChangeAt Go.RowKit Go.Deep
set_option linter.unusedVariables false
set_option linter.unusedSimpArgs false
set_option maxRecDepth 1000000
theorem grown_set (w : World) (a : Addr) (u : Value) : w.grownBy (w.setCell a u) (some a.block) :=
  ⟨rfl, rfl, rfl, by simp, fun k _ hk => Below.heap_setCell _ _ _ k (fun e => hk (by rw [e]))⟩
theorem grown_sets (b : Nat) : ∀ (vs : List Value) (o : Nat) (w : World), w.grownBy (w.setCells b o vs) (some b)
  | [], _, w => World.grownBy.refl _ _
  | v :: r, o, w => gtrans (grown_set w ⟨b, o, none⟩ v) (grown_sets b r (o + 1) _)
theorem there_cells {w : World} {b n : Nat} (h : w.there b 0 n) (i : Nat) (hi : i < n) : (∃ old, w.cell? ⟨b, i, none⟩ = some old) ∧ w.frozen? ⟨b, i, none⟩ = false := by
  have := h i hi
  rw [Nat.zero_add] at this
  exact ⟨Option.isSome_iff_exists.1 this.1, this.2⟩
set_option maxHeartbeats 3200000 in
theorem markStackS_any (g n cap k0 : Nat) (w : World) (hn : n ≤ 1048576) (hk0 : 0 < k0) (hk1 : k0 ≤ 1000000000) (hg : g < w.heap.size) (hth : w.there g 0 (n * 4)) : Calls Tryd.prog 10 #[.slice (some ⟨g, 0, none⟩) n cap, .int .i64 k0] w fun e w' => e = .returned (.int .i64 ((k0 + n * 4 : Nat) : Int)) ∧ w.grownBy w' (some g) := by
  have hth' := Lib.hid hth
  clear hth
  go_enter Tryd.func10, Tryd.ntmps10
  go_wp2
  go_loopw [1, 5] (fun q i wr => ∃ j m : Nat, j ≤ n ∧ i = .int .i64 j ∧ q = .int .i64 m ∧ 0 < m ∧ m ≤ 2000000000 ∧ Hid (m = k0 + j * 4) ∧ Hid (wr.there g 0 (n * 4)) ∧ g < wr.heap.size ∧ Hid (w.grownBy wr (some g))) (fun _ i _ => n - (intOf i).toNat)
  case atStart => exact ⟨0, k0, by omega, rfl, rfl, hk0, by omega, Lib.hid (by omega), hth', hg, Lib.hid (World.grownBy.refl _ _)⟩
  case round =>
    obtain ⟨j, m, hj, rfl, rfl, hm0, hm1, hm, hth2, hlt2, hgr⟩ := hrel
    have hm' := hm.out
    by_cases hlt : j < n
    · have hjI : (j : Int) < (n : Int) := by omega
      have hm2 : m ≤ 1999999000 := by omega
      have hmI : (m : Int) ≤ 1999999000 := by omega
      have hmn : Hid (m + 4 = k0 + (j + 1) * 4) := Lib.hid (by omega)
      have hjn : Hid (j * 4 + 4 ≤ n * 4) := Lib.hid (by omega)
      clear hm'
      go_wp2_with (go_at_call 27; refine (markText_v m (by omega) hm0 _).mono ?_; rintro e w2 ⟨rfl, hb2⟩; have hth3 := Lib.hid (there_below hth2.out hlt2 hb2); have hlt3 := Nat.lt_of_lt_of_le hlt2 hb2.size; have hgr3 := Lib.hid (gtrans hgr.out (below_grown' hb2 _)); obtain ⟨⟨y0, c0⟩, f0⟩ := there_cells hth3.out (j * 4) (by have := hjn.out; omega); obtain ⟨⟨y1, c1⟩, f1⟩ := there_cells hth3.out (j * 4 + 1) (by have := hjn.out; omega); obtain ⟨⟨y2, c2⟩, f2⟩ := there_cells hth3.out (j * 4 + 2) (by have := hjn.out; omega); obtain ⟨⟨y3, c3⟩, f3⟩ := there_cells hth3.out (j * 4 + 3) (by have := hjn.out; omega); clear hb2)
      go_roundw
      case rel => exact ⟨j + 1, m + 4, by omega, by go_num, by go_num, by omega, by omega, hmn, Lib.hid (World.there_setCells hth3.out g (j * 4) [.string (markB m), .int .i64 ((m : Int) + 1), .int .i64 ((m : Int) + 1 + 1), .int .i64 ((m : Int) + 1 + 1 + 1)]), by simp; omega, Lib.hid (gtrans hgr3.out (grown_sets g [.string (markB m), .int .i64 ((m : Int) + 1), .int .i64 ((m : Int) + 1 + 1), .int .i64 ((m : Int) + 1 + 1 + 1)] (j * 4) _))⟩
      case measure => simp [intOf]; omega
    · obtain rfl : j = n := by omega
      have hm3 : Hid (m = k0 + j * 4) := hm
      clear hm'
      go_wp2
      go_ret
      exact ⟨ret_int (by rw [hm3.out]), hgr.out⟩
end Go.Proofs.YtjgpckocmjolmaaDoor
