/-
  Grids: distances, validity.
-/
import Derived.Test.YtagjpldfafablaaPlc
import Derived.Test.YtagjpldfafablaaReg
import Derived.Test.YtagjpldfafablaaCore2
namespace Go.Proofs.Ytagjpldfafablaa
open Go.ChangeShapes Go.WideShapes Go.ChangeAt Go.RowKit Go.Deep
set_option linter.unusedVariables false
set_option linter.unusedSimpArgs false
def absG (p q : Int) : Int := if q < p then p - q else q - p
def maxG (p q : Int) : Int := if q < p then p else q
def minG (p q : Int) : Int := if p < q then p else q
theorem l00MaxG (p q : Int) (w : World) : Calls Try.prog 69 #[.int .i64 p, .int .i64 q] w fun e w' => e = .returned (.int .i64 (maxG p q)) ∧ w = w' := by
  by_cases h : q < p
  all_goals
    go_enter Try.func69, Try.ntmps69
    go_wp2
    go_ret
    exact ⟨ret_int (by unfold maxG; split <;> omega), rfl⟩
theorem l03AbsG (p q : Int) (h0 : -1000000 ≤ p) (h1 : p ≤ 1000000) (h2 : -1000000 ≤ q) (h3 : q ≤ 1000000) (w : World) : Calls Try.prog 70 #[.int .i64 p, .int .i64 q] w fun e w' => e = .returned (.int .i64 (absG p q)) ∧ w = w' := by
  have hr : Hid (maxG (p - q) (q - p) = absG p q) := Lib.hid (by unfold absG maxG; split <;> split <;> omega)
  go_enter Try.func70, Try.ntmps70
  go_wp2_with (go_at_call 69; refine (l00MaxG _ _ _).mono ?_; rintro e w' ⟨rfl, rfl⟩)
  go_ret
  exact ⟨ret_int hr.out, rfl⟩
theorem absG_bd {p q : Int} (h0 : 0 ≤ p) (h1 : p ≤ 1000) (h2 : 0 ≤ q) (h3 : q ≤ 1000) : 0 ≤ absG p q ∧ absG p q ≤ 1000 := by unfold absG; split <;> omega
theorem withinG (n lo hi : Int) (w : World) : Calls Try.prog 81 #[.int .i64 n, .int .i64 lo, .int .i64 hi] w fun e w' => e = .returned (.bool (inB n lo hi)) ∧ w = w' := by
  by_cases h1 : lo ≤ n <;> by_cases h2 : n ≤ hi
  all_goals
    go_enter Try.func81, Try.ntmps81
    go_wp2
    go_ret
    exact ⟨ret_bool (by simp [inB, h1, h2]), rfl⟩
theorem isRise_any (n : Int) (w : World) : Calls Try.prog 53 #[.int .i64 n] w fun e w' => e = .returned (.bool (inB n 0 1000)) ∧ w = w' := by
  go_enter Try.func53, Try.ntmps53
  go_wp2_with (go_at_call 74; refine (within64_any _ _ _ _).mono ?_; rintro e w' ⟨rfl, rfl⟩)
  go_ret
  exact ⟨rfl, rfl⟩
theorem l07Height_any (n : Int) (w : World) : Calls Try.prog 37 #[.int .i64 n] w fun e w' => e = .returned (.bool (inB n 0 1000)) ∧ w = w' := by
  go_enter Try.func37, Try.ntmps37
  go_wp2_with (go_at_call 62; refine (l00In_any _ _ _ _).mono ?_; rintro e w' ⟨rfl, rfl⟩)
  go_ret
  exact ⟨rfl, rfl⟩
/-- how many columns: the first row's cell is there -/
theorem columns_at (g o R cap c cc : Nat) (a : Option Addr) (hR : 1 ≤ R) (hRm : R ≤ 1048576) (hc : c ≤ 1048576) (w : World) (h : w.cell? ⟨g, o, none⟩ = some (.slice a c cc)) : Calls Try.prog 55 #[.slice (some ⟨g, o, none⟩) R cap] w fun e w' => e = .returned (.int .i64 (c : Int)) ∧ w = w' := by
  have hRI : (1 : Int) ≤ (R : Int) := by omega
  go_enter Try.func55, Try.ntmps55
  go_wp2
  go_ret
  exact ⟨rfl, rfl⟩
/-- a row's numbers, some are seen to be heights -/
theorem all_take {Z : List Int} {p : Int → Bool} {k : Nat} (h : k < Z.length) (h1 : (Z.take k).all p = true) (h2 : p Z[k] = true) : (Z.take (k + 1)).all p = true := by
  rw [List.take_succ_eq_append_getElem h, List.all_append, h1]; simpa using h2
theorem all_not {α : Type} {Z : List α} {p : α → Bool} {k : Nat} (h : k < Z.length) (h2 : p Z[k] = false) : Z.all p = false := by
  rw [List.all_eq_false]; exact ⟨Z[k], List.getElem_mem h, by rw [h2]; simp⟩
theorem all_takeG {α : Type} {Z : List α} {p : α → Bool} {k : Nat} (h : k < Z.length) (h1 : (Z.take k).all p = true) (h2 : p Z[k] = true) : (Z.take (k + 1)).all p = true := by
  rw [List.take_succ_eq_append_getElem h, List.all_append, h1]; simpa using h2
theorem okG_no {G : List (List Int)} (h : G.all (rowOk (colsG G)) = false) : okG G = false := by unfold okG; rw [h]; rfl
theorem rowOk_len {c : Nat} {Z : List Int} (h : Z.length ≠ c) : rowOk c Z = false := by unfold rowOk; simp [h]
theorem rowOk_zero {c : Nat} {Z : List Int} (h : Z.length = 0) : rowOk c Z = false := by unfold rowOk; simp [h]
theorem rowOk_long {c : Nat} {Z : List Int} (h : ¬ Z.length ≤ 10) : rowOk c Z = false := by unfold rowOk; simp [h]
theorem rowOk_num {c : Nat} {Z : List Int} (h : Z.all (fun n => inB n 0 1000) = false) : rowOk c Z = false := by unfold rowOk; simp [h]
theorem rowOk_yes {c : Nat} {Z : List Int} (h1 : Z.length = c) (h2 : Z.length ≠ 0) (h3 : Z.length ≤ 10) (h : Z.all (fun n => inB n 0 1000) = true) : rowOk c Z = true := by unfold rowOk; rw [h]; simp [h1 ▸ h2, h1 ▸ h3, h1]
theorem colsG_get {G : List (List Int)} (h : 0 < G.length) : colsG G = G[0].length := by
  unfold colsG
  cases G with
  | nil => cases h
  | cons a b => rfl
set_option maxHeartbeats 3200000 in
theorem l07Ok_any (v : Value) (G : List (List Int)) (w : World) (hn : G.length + totL G ≤ 1048576) (hv : GridAt w v G) : Calls Try.prog 28 #[v] w fun e w' => e = .returned (.bool (okG G)) ∧ DrewOf w w' := by
  obtain ⟨a, cap, rfl, hcap, hread⟩ := hv
  have hread' := Lib.hid hread
  have hn' := Lib.hid hn
  have hn2 : G.length ≤ 1048576 := by omega
  have hx : Hid (okG G = (G.all (rowOk (colsG G)) && (decide (0 < G.length) && decide (G.length ≤ 10)))) := Lib.hid rfl
  clear hread hn
  go_enter Try.func28, Try.ntmps28
  go_wp2
  go_loopw [3] (fun i wr => ∃ k : Nat, k ≤ G.length ∧ i = .int .i64 k ∧ Hid ((G.take k).all (rowOk (colsG G)) = true) ∧ DrewOf w wr) (fun i _ => G.length - (intOf i).toNat)
  case atStart => exact ⟨0, by omega, rfl, Lib.hid (by simp), DrewOf.refl _⟩
  case round =>
    obtain ⟨k, hk, rfl, hall, hd⟩ := hrel
    by_cases hlt : k < G.length
    · rcases hread'.out with h | ⟨g, o, rfl, hg, hc⟩
      · subst h; simp at hlt
      obtain ⟨u0, hu0, hz0⟩ := hc 0 (by omega)
      obtain ⟨u, hu, hz⟩ := hc k hlt
      have hl0 : G[0].length ≤ 1048576 := by have := totL_ge (List.getElem_mem (show 0 < G.length by omega)); have := hn'.out; omega
      have hlk : G[k].length ≤ 1048576 := by have := totL_ge (List.getElem_mem hlt); have := hn'.out; omega
      have hcol := colsG_get (show 0 < G.length by omega)
      rw [← hcol] at hl0
      obtain ⟨a0, cap0, rfl⟩ := ints_len hz0
      rw [← hcol] at hu0
      have e0 : wr.cell? ⟨g, o, none⟩ = some (.slice a0 (colsG G) cap0) := by rw [hd.cell]; simpa using hu0
      have e1 : wr.cell? ⟨g, o + k, none⟩ = some u := by rw [hd.cell]; exact hu
      have hno : Hid (rowOk (colsG G) G[k] = false → okG G = false) := Lib.hid (fun h => okG_no (all_not hlt h))
      have hyes : Hid (rowOk (colsG G) G[k] = true → (G.take (k + 1)).all (rowOk (colsG G)) = true) := Lib.hid (fun h => all_takeG hlt hall.out h)
      obtain ⟨Z, hZ⟩ : ∃ Z, Z = G[k] := ⟨_, rfl⟩
      rw [← hZ] at hz hlk hno hyes
      obtain ⟨c, hcc⟩ : ∃ c, c = colsG G := ⟨_, rfl⟩
      rw [← hcc] at hl0 e0 hno hyes
      obtain ⟨az, capz, rfl, hcapz, hin, hcz⟩ := hz
      have hcz' := Lib.hid hcz
      have hcc' := Lib.hid hcc
      clear hZ hcc hcol hc hcz hu hu0 hz0 hin
      have h0I : (0 : Int) < (G.length : Int) := by omega
      have q0 : Hid (okG G = false → Hid True) := Lib.hid (fun _ => Lib.hid trivial)
      by_cases hA : Z.length = c
      rotate_left
      · have hr := Lib.hid (hno.out (rowOk_len hA))
        have b1 : ((Z.length : Int) == (c : Int)) = false := by simpa using (show ¬ (Z.length : Int) = (c : Int) by omega)
        have b2 : ((Z.length : Int) != (c : Int)) = true := by simp [bne, b1]
        clear hno hyes
        go_wp2
        go_quiet (fail)
        go_wp2
        go_ret
        exact ⟨ret_bool hr.out.symm, hd.more _⟩
      have b1 : ((Z.length : Int) == (c : Int)) = true := by simp [hA]
      have b2 : ((Z.length : Int) != (c : Int)) = false := by simp [bne, b1]
      have hA' := Lib.hid hA
      clear hA
      by_cases hB : Z.length = 0
      · have hr := Lib.hid (hno.out (rowOk_zero hB))
        have b3 : ((Z.length : Int) == 0) = true := by simp [hB]
        clear hno hyes hB
        go_wp2
        go_quiet (fail)
        go_wp2
        go_ret
        exact ⟨ret_bool hr.out.symm, hd.more _⟩
      have b3 : ((Z.length : Int) == 0) = false := by simpa using (show ¬ (Z.length : Int) = 0 by omega)
      by_cases hC : Z.length ≤ 10
      rotate_left
      · have hr := Lib.hid (hno.out (rowOk_long hC))
        clear hno hyes
        go_wp2
        go_quiet (fail)
        go_wp2
        go_ret
        exact ⟨ret_bool hr.out.symm, hd.more _⟩
      have hno2 : Hid (Z.all (fun n => inB n 0 1000) = false → okG G = false) := Lib.hid (fun h => hno.out (rowOk_num h))
      have hyes2 : Hid (Z.all (fun n => inB n 0 1000) = true → (G.take (k + 1)).all (rowOk c) = true) := Lib.hid (fun h => hyes.out (rowOk_yes hA'.out hB hC h))
      have hd' := Lib.hid hd
      clear hno hyes
      go_wp2
      go_quiet (fail)
      go_wp2
      have hd2 : DrewOf w (wr.drewN nq) := hd'.out.more _
      generalize wr.drewN nq = wq at hd2 ⊢
      go_loopw [4] (fun i wi => ∃ j : Nat, j ≤ Z.length ∧ i = .int .i64 j ∧ Hid ((Z.take j).all (fun n => inB n 0 1000) = true) ∧ DrewOf w wi) (fun i _ => Z.length - (intOf i).toNat)
      case atStart => exact ⟨0, by omega, rfl, Lib.hid (by simp), hd2⟩
      case round =>
        obtain ⟨j, hj, rfl, hrow, hdi⟩ := hrel
        have e2 : wr.cell? ⟨g, o + k, none⟩ = some (.slice az Z.length capz) := by rw [hdi.cell, ← hd'.out.cell]; exact e1
        by_cases hlj : j < Z.length
        · rcases hcz'.out with h | ⟨gz, oz, rfl, hgz, hcj⟩
          · subst h; simp at hlj
          have e3 : wr.cell? ⟨gz, oz + j, none⟩ = some (.int .i64 Z[j]) := by rw [hdi.cell]; exact hcj j hlj
          have hyj : Hid (inB Z[j] 0 1000 = true → (Z.take (j + 1)).all (fun n => inB n 0 1000) = true) := Lib.hid (fun h => all_takeG hlj hrow.out h)
          have hnj : Hid (inB Z[j] 0 1000 = false → okG G = false) := Lib.hid (fun h => hno2.out (all_not hlj h))
          obtain ⟨z, hz⟩ : ∃ z, z = Z[j] := ⟨_, rfl⟩
          rw [← hz] at e3 hyj hnj
          clear hz hcj e1 e0
          cases hb : inB z 0 1000
          · have hr := Lib.hid (hnj.out hb)
            have cH := Lib.hid (fun W => l07Height_any z W)
            rw [hb] at cH
            clear hb hnj hyj
            go_wp2_with (go_at_call 37; refine (cH.out _).mono ?_; rintro e w2 ⟨rfl, rfl⟩)
            go_ret
            exact ⟨ret_bool hr.out.symm, hdi⟩
          · have hr := Lib.hid (hyj.out hb)
            have cH := Lib.hid (fun W => l07Height_any z W)
            rw [hb] at cH
            clear hb hnj hyj
            go_wp2_with (go_at_call 37; refine (cH.out _).mono ?_; rintro e w2 ⟨rfl, rfl⟩)
            go_roundw
            case rel => exact ⟨j + 1, by omega, by go_num, hr, hdi⟩
            case measure => simp [intOf]; omega
        · have hjl : j = Z.length := by omega
          have hr : Hid ((G.take (k + 1)).all (rowOk (colsG G)) = true) := Lib.hid (by have := hrow.out; rw [hjl, List.take_length] at this; rw [← hcc'.out]; exact hyes2.out this)
          clear hjl hrow e0
          go_wp2
          go_roundw
          case rel => exact ⟨k + 1, by omega, by go_num, hr, hdi⟩
          case measure => simp [intOf]; omega
    · have hkl : k = G.length := by omega
      have hr : Hid (okG G = (decide (0 < G.length) && decide (G.length ≤ 10))) := Lib.hid (by have := hall.out; rw [hkl, List.take_length] at this; rw [hx.out, this]; rfl)
      clear hkl hall
      by_cases h1 : 0 < G.length
      · by_cases h2 : G.length ≤ 10
        · have h1I : (0 : Int) < (G.length : Int) := by omega
          have h2I : (G.length : Int) ≤ 10 := by omega
          go_wp2
          go_ret
          exact ⟨ret_bool (by rw [hr.out]; simp [h1, h2] <;> omega), hd⟩
        · have h1I : (0 : Int) < (G.length : Int) := by omega
          go_wp2
          go_ret
          exact ⟨ret_bool (by rw [hr.out]; simp [h1, h2] <;> omega), hd⟩
      · go_wp2
        go_ret
        exact ⟨ret_bool (by rw [hr.out]; simp [h1]), hd⟩
end Go.Proofs.Ytagjpldfafablaa
