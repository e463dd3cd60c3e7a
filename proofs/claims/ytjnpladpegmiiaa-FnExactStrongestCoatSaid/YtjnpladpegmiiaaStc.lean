/-
  The coat that covers most, on both sides.
-/
import Derived.Test.YtjnpladpegmiiaaCtsW
import Derived.Test.YtjnpladpegmiiaaFg
namespace Go.Proofs.Ytjnpladpegmiiaa
open Go.ChangeShapes Go.WideShapes Go.ChangeAt Go.RowKit Go.Deep
set_option linter.unusedVariables false
set_option linter.unusedSimpArgs false
set_option maxRecDepth 1000000
def covF (Z : List Ct) (i : Nat) : Int := (Z.getD i ct0).cover
theorem covF_at {Z : List Ct} {k : Nat} (h : k < Z.length) : covF Z k = Z[k].cover := by unfold covF; rw [ct_getD_at' h]
def strV (Z : List Ct) : Int := if ctsB Z = true then (if Z.length = 0 then 0 else ((fgI (covF Z) Z.length : Nat) : Int)) else 0
def strC (Z : List Ct) : Int := if ctsB Z = true then (if Z.length = 0 then 3 else 0) else 1
theorem strongest1_any (bx : Nat) (v : Value) (Z : List Ct) (k : Nat) (w : World) (hk : k < Z.length) (h10 : Z.length ≤ 10) (hc : w.cell? ⟨bx, 0, none⟩ = some v) (hv : CtsAt w v Z) : Calls Try.prog 70 #[.int .i64 (k : Int), .pointer (some ⟨bx, 0, none⟩)] w fun e w' => e = .returned (.int .i64 (covF Z k)) ∧ Below w.heap.size w w' := by
  have hx := Lib.hid (covF_at hk)
  obtain ⟨a0, cap, rfl, hcap, hids, hread⟩ := hv
  rcases hread with h | ⟨g, o, rfl, hg, hr⟩
  · subst h; simp at hk
  have hkI : (k : Int) < (Z.length : Int) := by omega
  have c2 : w.cell? ⟨g, o + k * 4 + 2, none⟩ = some (.int .i64 Z[k].cover) := by obtain ⟨_, huk, _⟩ := hr k hk; exact huk 2 _ rfl
  obtain ⟨z, hz⟩ : ∃ z, z = Z[k].cover := ⟨_, rfl⟩
  rw [← hz] at c2 hx
  clear hr hids hz
  go_enter Try.func70, Try.ntmps70
  go_wp2
  go_ret
  exact ⟨ret_int hx.out.symm, Below.refl _ _⟩
set_option maxHeartbeats 1600000 in
theorem implStrongestCoat_any (v : Value) (Z : List Ct) (w : World) (hn : Z.length ≤ 1048576) (hv : CtsAt w v Z) : Calls Try.prog 37 #[v] w fun e w' => e = .returned (.tuple #[.int .i64 (strV Z), .int .i64 (strC Z)]) ∧ Below w.heap.size w w' := by
  have hv' := Lib.hid hv
  obtain ⟨a0, cap, rfl, hcap, hids, hread⟩ := hv
  clear hread hids
  have hB0 : Below w.heap.size w (w.alloc (.cells #[.slice a0 Z.length cap] 25)) := (Below.refl _ _).alloc (Nat.le_refl _) _
  have q1 : (w.alloc (.cells #[.slice a0 Z.length cap] 25)).cell? ⟨w.heap.size, 0, none⟩ = some (.slice a0 Z.length cap) := cellB (heap_alloc_new w (.cells #[.slice a0 Z.length cap] 25)) 0 _ rfl
  have hsz : w.heap.size < (w.alloc (.cells #[.slice a0 Z.length cap] 25)).heap.size := by simp
  have cV := implValidCoats_any (.slice a0 Z.length cap) Z (w.alloc (.cells #[.slice a0 Z.length cap] 25)) hn (hv'.out.below hB0)
  have hV : Hid (strV Z = if ctsB Z = true then (if Z.length = 0 then 0 else ((fgI (covF Z) Z.length : Nat) : Int)) else 0) := Lib.hid rfl
  have hC : Hid (strC Z = if ctsB Z = true then (if Z.length = 0 then 3 else 0) else 1) := Lib.hid rfl
  cases h1 : ctsB Z <;> rw [h1] at cV hV hC <;> replace cV := Lib.hid cV
  · go_enter Try.func37, Try.ntmps37
    go_wp2_with (go_at_call 16; (with_reducible refine cV.out.mono ?_); rintro e w1 ⟨rfl, b1⟩)
    go_ret2
    exact ⟨ret_int2 (by rw [hV.out]; simp) (by rw [hC.out]; simp), below2 hB0 b1⟩
  have h10 := cts_len h1
  by_cases hz0 : Z.length = 0
  · have hb9 := Lib.hid (And.intro hB0 hsz)
    rw [hz0] at cV q1 hV hC hb9 ⊢
    clear hv' hB0 hsz h1 h10
    go_enter Try.func37, Try.ntmps37
    go_wp2_with (go_at_call 16; (with_reducible refine cV.out.mono ?_); rintro e w1 ⟨rfl, b1⟩; have q2 := (b1.cell (p := ⟨w.heap.size, 0, none⟩) hb9.out.2).trans q1)
    go_ret2
    exact ⟨ret_int2 (by rw [hV.out]; simp) (by rw [hC.out]; simp), below2 hb9.out.1 b1⟩
  have h00 : 0 < Z.length := by omega
  have hzb : ((Z.length : Int) == 0) = false := by (rw [beq_eq_false_iff_ne]; omega)
  have cF := Lib.hid (fun W (hb : Below (w.alloc (.cells #[.slice a0 Z.length cap] 25)).heap.size (w.alloc (.cells #[.slice a0 Z.length cap] 25)) W) => firstGreatest_any 70 #[.pointer (some ⟨w.heap.size, 0, none⟩)] Z.length (covF Z) W (enters_of Try.func70 (by kernel_rfl) rfl) (by omega) (by omega) (fun W2 i hW hi =>
    strongest1_any w.heap.size (.slice a0 Z.length cap) Z i W2 hi h10 ((hW.cell (p := ⟨w.heap.size, 0, none⟩) (Nat.lt_of_lt_of_le hsz hb.size)).trans ((hb.cell (p := ⟨w.heap.size, 0, none⟩) hsz).trans q1)) (((hv'.out.below hB0).below hb).below hW)))
  go_enter Try.func37, Try.ntmps37
  go_wp2_with (first
    | (go_at_call 16; (with_reducible refine cV.out.mono ?_); rintro e w1 ⟨rfl, b1⟩; have q2 := (b1.cell (p := ⟨w.heap.size, 0, none⟩) hsz).trans q1)
    | (go_at_call 69; (with_reducible refine (cF.out _ b1).mono ?_); rintro e w2 ⟨rfl, b2⟩))
  go_ret2
  exact ⟨ret_int2 (by rw [hV.out]; simp [hz0]) (by rw [hC.out]; simp [hz0]), below2 hB0 (below2 b1 b2)⟩
set_option maxHeartbeats 1600000 in
theorem specStrongestCoat_any (v : Value) (Z : List Ct) (w : World) (hn : Z.length ≤ 1048576) (hv : CtsAt w v Z) : Calls Try.prog 36 #[v] w fun e w' => e = .returned (.tuple #[.int .i64 (strV Z), .int .i64 (strC Z)]) ∧ Below w.heap.size w w' := by
  have cV := l13Ok_any v Z w hn hv
  have hV : Hid (strV Z = if ctsB Z = true then (if Z.length = 0 then 0 else ((fgI (covF Z) Z.length : Nat) : Int)) else 0) := Lib.hid rfl
  have hC : Hid (strC Z = if ctsB Z = true then (if Z.length = 0 then 3 else 0) else 1) := Lib.hid rfl
  cases h1 : ctsB Z <;> rw [h1] at cV hV hC <;> replace cV := Lib.hid cV
  · go_enter Try.func36, Try.ntmps36
    go_wp2_with (go_at_call 47; (with_reducible refine cV.out.mono ?_); rintro e w1 ⟨rfl, b1⟩)
    go_ret2
    exact ⟨ret_int2 (by rw [hV.out]; simp) (by rw [hC.out]; simp), b1.below⟩
  have h10 := cts_len h1
  obtain ⟨p9, cap, rfl, hcap, hids, hread⟩ := hv
  by_cases hz0 : Z.length = 0
  · rw [hz0] at cV hV hC ⊢
    clear hread hids h1 h10
    go_enter Try.func36, Try.ntmps36
    go_wp2_with (go_at_call 47; (with_reducible refine cV.out.mono ?_); rintro e w1 ⟨rfl, b1⟩)
    go_ret2
    exact ⟨ret_int2 (by rw [hV.out]; simp) (by rw [hC.out]; simp), b1.below⟩
  have h00 : 0 < Z.length := by omega
  have hzb : ((Z.length : Int) == 0) = false := by (rw [beq_eq_false_iff_ne]; omega)
  have hread' := Lib.hid hread
  clear hread hids h1
  go_enter Try.func36, Try.ntmps36
  go_wp2_with (go_at_call 47; (with_reducible refine cV.out.mono ?_); rintro e w1 ⟨rfl, b1⟩)
  go_loopw [4, 5] (fun q i wr => ∃ k x : Nat, 1 ≤ k ∧ k ≤ Z.length ∧ i = .int .i64 k ∧ q = .int .i64 x ∧ x < k ∧ Hid (x = fgI (covF Z) k) ∧ DrewOf w wr) (fun _ i _ => Z.length - (intOf i).toNat)
  case atStart => exact ⟨1, 0, by omega, by omega, rfl, rfl, by omega, Lib.hid (fgI_one _).symm, b1⟩
  case round =>
    obtain ⟨k, x, hk0, hk, rfl, rfl, hxk, hx, hd⟩ := hrel
    by_cases hlt : k < Z.length
    · rcases hread'.out with h | ⟨g, o, rfl, hg, hc⟩
      · subst h; simp at hlt
      have hltI : (k : Int) < (Z.length : Int) := by omega
      have hxI : (x : Int) < (Z.length : Int) := by omega
      have c2 : wr.cell? ⟨g, o + k * 4 + 2, none⟩ = some (.int .i64 Z[k].cover) := by obtain ⟨_, huk, _⟩ := hc k hlt; exact (hd.cell _).trans (huk 2 _ rfl)
      have c3 : wr.cell? ⟨g, o + x * 4 + 2, none⟩ = some (.int .i64 Z[x].cover) := by obtain ⟨_, hux, _⟩ := hc x (by omega); exact (hd.cell _).trans (hux 2 _ rfl)
      have hf1 := covF_at hlt
      have hf2 := covF_at (Z := Z) (k := x) (by omega)
      obtain ⟨y1, hy1⟩ : ∃ y, y = Z[k].cover := ⟨_, rfl⟩
      obtain ⟨y2, hy2⟩ : ∃ y, y = Z[x].cover := ⟨_, rfl⟩
      rw [← hy1] at c2 hf1
      rw [← hy2] at c3 hf2
      by_cases hgt : y2 < y1
      · have hnew : Hid (k = fgI (covF Z) (k + 1)) := Lib.hid (by show k = if covF Z (fgI (covF Z) k) < covF Z k then k else fgI (covF Z) k; rw [← hx.out, hf1, hf2, if_pos hgt])
        clear hf1 hf2 hy1 hy2 hc
        go_wp2
        go_quiet (fail)
        go_wp2
        go_roundw
        case rel => exact ⟨k + 1, k, by omega, by omega, by go_num, rfl, by omega, hnew, hd.more _⟩
        case measure => simp [intOf]; omega
      · have hnew : Hid (x = fgI (covF Z) (k + 1)) := Lib.hid (by show x = if covF Z (fgI (covF Z) k) < covF Z k then k else fgI (covF Z) k; rw [← hx.out, hf1, hf2, if_neg hgt])
        clear hf1 hf2 hy1 hy2 hc
        go_wp2
        go_quiet (fail)
        go_wp2
        go_roundw
        case rel => exact ⟨k + 1, x, by omega, by omega, by go_num, rfl, by omega, hnew, hd.more _⟩
        case measure => simp [intOf]; omega
    · obtain rfl : k = Z.length := by omega
      go_wp2
      go_ret2
      exact ⟨ret_int2 (by rw [hV.out]; simp [hz0]; exact congrArg _ hx.out) (by rw [hC.out]; simp [hz0]), hd.below⟩
end Go.Proofs.Ytjnpladpegmiiaa
