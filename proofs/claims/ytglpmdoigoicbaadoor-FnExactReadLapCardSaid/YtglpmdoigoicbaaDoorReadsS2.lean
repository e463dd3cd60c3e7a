/-
  Contracts of the model's reader of laps.
-/
import Derived.Test.YtglpmdoigoicbaaDoorReadsS
import Derived.Test.YtglpmdoigoicbaaDoorSplit
import Derived.Deep.QuietTactic
import Derived.BigQuiet
namespace Go.Proofs.YtglpmdoigoicbaaDoor
open Go.ChangeShapes Go.WideShapes Go.ChangeAt Go.RowKit
set_option linter.unusedVariables false
set_option linter.unusedSimpArgs false
theorem lapR_split {l : List UInt8} (h : (splitL 58 l).length ≠ 2) : lapR l = none := by
  unfold lapR
  split
  · rename_i a b e; rw [e] at h; exact absurd rfl h
  · rfl
def lapQ (a b : List UInt8) : Option Int :=
  if b.length = 2 ∧ b.all db = true then
    (match readD a with
      | some m => if 0 ≤ m ∧ m ≤ 1000000000 ∧ valF 0 b ≤ 59 ∧ 60 * m + valF 0 b ≤ 1000000000 then some (60 * m + valF 0 b) else none
      | none => none) else none
theorem lapR_two {l a b : List UInt8} (h : splitL 58 l = [a, b]) : lapR l = lapQ a b := by
  unfold lapR lapQ; rw [h]; rfl
theorem two_bytes (B : ByteArray) (h : B.size = 2) (h0 : 0 < B.size) (h1 : 1 < B.size) : B.data.toList = [B[0], B[1]] := by
  have hl : B.data.toList.length = 2 := by rw [len_data]; exact h
  apply List.ext_getElem
  · rw [hl]; rfl
  · intro i h2 h3
    match i, h3 with
    | 0, _ => rfl
    | 1, _ => rfl
theorem row_twoS {w : World} {B : Nat} {v : Value} {a b : List UInt8} (h : w.ownsRow B 9 1 v 2 [encS a, encS b]) : ∃ g cap, v = .slice (some ⟨g, 0, none⟩) 2 cap ∧ 2 ≤ cap ∧ w.cell? ⟨g, 0, none⟩ = some (encS a) ∧ w.cell? ⟨g, 1, none⟩ = some (encS b) := by
  have h0 := h
  rcases h.2 with ⟨h1, h2⟩ | ⟨g, cap, cur, hv, hg, hb, hn, hcap, _, _⟩
  · omega
  · subst hv
    exact ⟨g, cap, rfl, hn, by rw [h0.cellAt 0 (by omega)]; rfl, by rw [h0.cellAt 1 (by omega)]; rfl⟩
set_option maxHeartbeats 3200000 in
set_option maxRecDepth 1000000 in
theorem specReadLap_any (s : ByteArray) (hs : s.size ≤ 1048576) (w : World) : Calls Tryd.prog 29 #[.string s] w fun e w' => e = .returned (optV (lapR s.data.toList)) ∧ Below w.heap.size w w' := by
  have hc0 := l01Split_any s 58 w hs
  have hlen := splitL_len 58 s.data.toList
  rw [len_data] at hlen
  by_cases h2 : (splitL 58 s.data.toList).length = 2
  rotate_left
  · have hr : Hid (optV (lapR s.data.toList) = .tuple #[.int .i64 0, .bool false]) := Lib.hid (by rw [lapR_split h2]; rfl)
    obtain ⟨M, hM⟩ : ∃ M, M = (splitL 58 s.data.toList).length := ⟨_, rfl⟩
    have hc : Hid (Calls Tryd.prog 69 #[.string s, .int .u8 58] w fun e w' => ∃ a cap, e = .returned (.slice a M cap) ∧ M ≤ cap ∧ Below w.heap.size w w') := Lib.hid (hc0.mono fun e w' h => by
      obtain ⟨v, he, ho, hb⟩ := h
      have hpos := splitL_pos 58 s.data.toList
      rcases row_open ho with ⟨_, h0⟩ | ⟨g, cap, rfl, _, _, hcap, _⟩
      · rw [h0] at hpos; exact absurd hpos (Nat.lt_irrefl 0)
      · exact ⟨_, cap, by rw [hM]; exact he, by rw [hM]; exact hcap, hb⟩)
    rw [← hM] at h2 hlen
    have t0 : ((M : Int) == 2) = false := by rw [beq_eq_false_iff_ne]; omega
    have u0 : ((M : Int) != 2) = true := by unfold bne; rw [t0]; rfl
    clear hM h2 hc0
    go_enter Tryd.func29, Tryd.ntmps29
    go_wp2_with (go_at_call 69; refine hc.out.mono ?_; rintro e w1 ⟨a, cap, rfl, hcap, b1⟩)
    go_ret2
    exact ⟨congrArg Ending.returned hr.out.symm, b1⟩
  obtain ⟨a, b, hab⟩ : ∃ a b, splitL 58 s.data.toList = [a, b] := by
    match h : splitL 58 s.data.toList, h2 with
    | [a, b], _ => exact ⟨a, b, rfl⟩
  have hq := Lib.hid (lapR_two hab)
  have hpl := fun p hp => part_len 58 _ s.data.toList (Nat.le_refl _) p hp
  rw [hab] at hc0 hpl
  have la := hpl a (by simp)
  have lb := hpl b (by simp)
  rw [len_data] at la lb
  clear h2 hab hpl hlen
  obtain ⟨A, hA⟩ : ∃ A : ByteArray, A = ⟨a.toArray⟩ := ⟨_, rfl⟩
  obtain ⟨B, hB⟩ : ∃ B : ByteArray, B = ⟨b.toArray⟩ := ⟨_, rfl⟩
  have hAl : A.data.toList = a := by rw [hA]
  have hBl : B.data.toList = b := by rw [hB]
  have hAs : A.size ≤ 1048576 := by rw [← len_data, hAl]; omega
  have hBs : B.size ≤ 1048576 := by rw [← len_data, hBl]; omega
  have hc : Hid (Calls Tryd.prog 69 #[.string s, .int .u8 58] w fun e w' => ∃ g cap, e = .returned (.slice (some ⟨g, 0, none⟩) 2 cap) ∧ 2 ≤ cap ∧ w'.cell? ⟨g, 0, none⟩ = some (.string A) ∧ w'.cell? ⟨g, 1, none⟩ = some (.string B) ∧ Below w.heap.size w w') := Lib.hid (hc0.mono fun e w' h => by
    obtain ⟨v, he, ho, hb⟩ := h
    obtain ⟨g, cap, rfl, h1, h2, h3⟩ := row_twoS ho
    exact ⟨g, cap, he, h1, by rw [hA]; exact h2, by rw [hB]; exact h3, hb⟩)
  have cN0 := fun W => l01Number_any A W (by unfold maxLen; omega)
  rw [hAl] at cN0
  clear hc0 hA hB la lb
  by_cases z0 : B.size = 2
  rotate_left
  · have hr : Hid (optV (lapR s.data.toList) = .tuple #[.int .i64 0, .bool false]) := Lib.hid (by rw [hq.out]; unfold lapQ; rw [if_neg (by rintro ⟨h1, h2⟩; rw [← hBl, len_data] at h1; exact z0 h1)]; rfl)
    have t0 : ((B.size : Int) == 2) = false := by rw [beq_eq_false_iff_ne]; omega
    have u0 : ((B.size : Int) != 2) = true := by unfold bne; rw [t0]; rfl
    have cN := Lib.hid cN0
    clear z0 hAl hBl cN0
    go_enter Tryd.func29, Tryd.ntmps29
    go_wp2_with (first
      | (go_at_call 69; refine hc.out.mono ?_; rintro e w1 ⟨g, cap, rfl, hcap, c0, c1, b1⟩)
      | (go_at_call 70; refine (digit_any _ _).mono ?_; rintro e w' ⟨rfl, rfl⟩)
      | (go_at_call 71; refine (cN.out _).mono ?_; rintro e w' ⟨rfl, rfl⟩)
      | (go_at_call 67; refine (l02Mass_any _ _).mono ?_; rintro e w' ⟨rfl, rfl⟩))
    go_ret2
    exact ⟨congrArg Ending.returned hr.out.symm, b1⟩
  have t0 : ((B.size : Int) == 2) = true := by rw [z0]; rfl
  have u0 : ((B.size : Int) != 2) = false := by unfold bne; rw [t0]; rfl
  have g2 : 2 ≤ B.size := by omega
  have i0 : 0 < B.size := by omega
  have i1 : 1 < B.size := by omega
  have hb2 := Lib.hid (two_bytes B z0 i0 i1)
  have hbl : Hid (b = [B[0]'i0, B[1]'i1]) := Lib.hid (hBl.symm.trans hb2.out)
  clear z0 hBl hb2 hAl
  cases d0 : db B[0]
  · have hr : Hid (optV (lapR s.data.toList) = .tuple #[.int .i64 0, .bool false]) := Lib.hid (by rw [hq.out]; unfold lapQ; rw [if_neg (by rintro ⟨h1, h2⟩; rw [hbl.out] at h2; simp [d0] at h2)]; rfl)
    have cN := Lib.hid cN0
    clear cN0
    go_enter Tryd.func29, Tryd.ntmps29
    go_wp2_with (first
      | (go_at_call 69; refine hc.out.mono ?_; rintro e w1 ⟨g, cap, rfl, hcap, c0, c1, b1⟩)
      | (go_at_call 70; refine (digit_any _ _).mono ?_; rintro e w' ⟨rfl, rfl⟩)
      | (go_at_call 71; refine (cN.out _).mono ?_; rintro e w' ⟨rfl, rfl⟩)
      | (go_at_call 67; refine (l02Mass_any _ _).mono ?_; rintro e w' ⟨rfl, rfl⟩))
    go_ret2
    exact ⟨congrArg Ending.returned hr.out.symm, b1⟩
  cases d1 : db B[1]
  · have hr : Hid (optV (lapR s.data.toList) = .tuple #[.int .i64 0, .bool false]) := Lib.hid (by rw [hq.out]; unfold lapQ; rw [if_neg (by rintro ⟨h1, h2⟩; rw [hbl.out] at h2; simp [d1] at h2)]; rfl)
    have cN := Lib.hid cN0
    clear cN0
    go_enter Tryd.func29, Tryd.ntmps29
    go_wp2_with (first
      | (go_at_call 69; refine hc.out.mono ?_; rintro e w1 ⟨g, cap, rfl, hcap, c0, c1, b1⟩)
      | (go_at_call 70; refine (digit_any _ _).mono ?_; rintro e w' ⟨rfl, rfl⟩)
      | (go_at_call 71; refine (cN.out _).mono ?_; rintro e w' ⟨rfl, rfl⟩)
      | (go_at_call 67; refine (l02Mass_any _ _).mono ?_; rintro e w' ⟨rfl, rfl⟩))
    go_ret2
    exact ⟨congrArg Ending.returned hr.out.symm, b1⟩
  have k0 := (db_iff _).1 d0
  have k1 := (db_iff _).1 d1
  obtain ⟨x, hx⟩ : ∃ x : Nat, B[0].toNat = 48 + x := ⟨B[0].toNat - 48, by omega⟩
  obtain ⟨y, hy⟩ : ∃ y : Nat, B[1].toNat = 48 + y := ⟨B[1].toNat - 48, by omega⟩
  have hx9 : x ≤ 9 := by omega
  have hy9 : y ≤ 9 := by omega
  have hv : Hid (valF 0 b = 10 * x + y) := Lib.hid (by
    rw [hbl.out]
    show 10 * (10 * 0 + (B[0].toNat - 48)) + (B[1].toNat - 48) = _
    omega)
  have hall : Hid (b.length = 2 ∧ b.all db = true) := Lib.hid (by rw [hbl.out]; exact ⟨rfl, by simp [d0, d1]⟩)
  have e1 : IntKind.u8.wrap ((B[0].toNat : Int) - 48) = (x : Int) := by rw [IntWalk.u8_in _ (by omega)]; omega
  have e2 : IntKind.u8.wrap ((B[1].toNat : Int) - 48) = (y : Int) := by rw [IntWalk.u8_in _ (by omega)]; omega
  have e3 : IntKind.i64.wrap (x : Int) = (x : Int) := IntWalk.i64_in _ (by omega)
  have e4 : IntKind.i64.wrap (y : Int) = (y : Int) := IntWalk.i64_in _ (by omega)
  have e5 : IntKind.i64.wrap (10 * (x : Int)) = 10 * (x : Int) := IntWalk.i64_in _ (by omega)
  have e6 : IntKind.i64.wrap (10 * (x : Int) + (y : Int)) = 10 * (x : Int) + (y : Int) := IntWalk.i64_in _ (by omega)
  clear hx hy k0 k1
  cases hrd : readD a with
  | none =>
    have hr : Hid (optV (lapR s.data.toList) = .tuple #[.int .i64 0, .bool false]) := Lib.hid (by rw [hq.out]; unfold lapQ; rw [if_pos hall.out, hrd]; rfl)
    rw [hrd] at cN0
    simp only [optV] at cN0
    have cN := Lib.hid cN0
    clear cN0 hrd
    go_enter Tryd.func29, Tryd.ntmps29
    go_wp2_with (first
      | (go_at_call 69; refine hc.out.mono ?_; rintro e w1 ⟨g, cap, rfl, hcap, c0, c1, b1⟩)
      | (go_at_call 70; refine (digit_any _ _).mono ?_; rintro e w' ⟨rfl, rfl⟩)
      | (go_at_call 71; refine (cN.out _).mono ?_; rintro e w' ⟨rfl, rfl⟩)
      | (go_at_call 67; refine (l02Mass_any _ _).mono ?_; rintro e w' ⟨rfl, rfl⟩))
    go_quiet (fail)
    clear e1 e2 e3 e4 e5 e6
    go_wp2_with (first
      | (go_at_call 69; refine hc.out.mono ?_; rintro e w1 ⟨g, cap, rfl, hcap, c0, c1, b1⟩)
      | (go_at_call 70; refine (digit_any _ _).mono ?_; rintro e w' ⟨rfl, rfl⟩)
      | (go_at_call 71; refine (cN.out _).mono ?_; rintro e w' ⟨rfl, rfl⟩)
      | (go_at_call 67; refine (l02Mass_any _ _).mono ?_; rintro e w' ⟨rfl, rfl⟩))
    go_ret2
    exact ⟨congrArg Ending.returned hr.out.symm, belowN b1 _⟩
  | some m =>
    rw [hrd] at cN0
    simp only [optV] at cN0
    have cN := Lib.hid cN0
    clear cN0
    have hq2 : Hid (lapR s.data.toList = if 0 ≤ m ∧ m ≤ 1000000000 ∧ 10 * x + y ≤ 59 ∧ 60 * m + ((10 * x + y : Nat) : Int) ≤ 1000000000 then some (60 * m + ((10 * x + y : Nat) : Int)) else none) := Lib.hid (by rw [hq.out]; unfold lapQ; rw [if_pos hall.out, hrd, hv.out])
    clear hrd
    cases z1 : inB m 0 1000000000
    · have hr : Hid (optV (lapR s.data.toList) = .tuple #[.int .i64 0, .bool false]) := Lib.hid (by rw [hq2.out, if_neg (by rintro ⟨h1, h2, _⟩; rw [inB_iff.2 ⟨h1, h2⟩] at z1; cases z1)]; rfl)
      go_enter Tryd.func29, Tryd.ntmps29
      go_wp2_with (first
      | (go_at_call 69; refine hc.out.mono ?_; rintro e w1 ⟨g, cap, rfl, hcap, c0, c1, b1⟩)
      | (go_at_call 70; refine (digit_any _ _).mono ?_; rintro e w' ⟨rfl, rfl⟩)
      | (go_at_call 71; refine (cN.out _).mono ?_; rintro e w' ⟨rfl, rfl⟩)
      | (go_at_call 67; refine (l02Mass_any _ _).mono ?_; rintro e w' ⟨rfl, rfl⟩))
      go_quiet (fail)
      clear e1 e2 e3 e4 e5 e6
      go_wp2_with (first
      | (go_at_call 69; refine hc.out.mono ?_; rintro e w1 ⟨g, cap, rfl, hcap, c0, c1, b1⟩)
      | (go_at_call 70; refine (digit_any _ _).mono ?_; rintro e w' ⟨rfl, rfl⟩)
      | (go_at_call 71; refine (cN.out _).mono ?_; rintro e w' ⟨rfl, rfl⟩)
      | (go_at_call 67; refine (l02Mass_any _ _).mono ?_; rintro e w' ⟨rfl, rfl⟩))
      go_ret2
      exact ⟨congrArg Ending.returned hr.out.symm, belowN b1 _⟩
    obtain ⟨m0, m1⟩ := inB_iff.1 z1
    by_cases z2 : 10 * x + y ≤ 59
    rotate_left
    · have hr : Hid (optV (lapR s.data.toList) = .tuple #[.int .i64 0, .bool false]) := Lib.hid (by rw [hq2.out, if_neg (by rintro ⟨_, _, h, _⟩; exact z2 h)]; rfl)
      go_enter Tryd.func29, Tryd.ntmps29
      go_wp2_with (first
      | (go_at_call 69; refine hc.out.mono ?_; rintro e w1 ⟨g, cap, rfl, hcap, c0, c1, b1⟩)
      | (go_at_call 70; refine (digit_any _ _).mono ?_; rintro e w' ⟨rfl, rfl⟩)
      | (go_at_call 71; refine (cN.out _).mono ?_; rintro e w' ⟨rfl, rfl⟩)
      | (go_at_call 67; refine (l02Mass_any _ _).mono ?_; rintro e w' ⟨rfl, rfl⟩))
      go_quiet (fail)
      clear e1 e2 e3 e4 e5 e6
      go_wp2_with (first
      | (go_at_call 69; refine hc.out.mono ?_; rintro e w1 ⟨g, cap, rfl, hcap, c0, c1, b1⟩)
      | (go_at_call 70; refine (digit_any _ _).mono ?_; rintro e w' ⟨rfl, rfl⟩)
      | (go_at_call 71; refine (cN.out _).mono ?_; rintro e w' ⟨rfl, rfl⟩)
      | (go_at_call 67; refine (l02Mass_any _ _).mono ?_; rintro e w' ⟨rfl, rfl⟩))
      go_ret2
      exact ⟨congrArg Ending.returned hr.out.symm, belowN b1 _⟩
    cases z3 : inB (60 * m + (10 * (x : Int) + (y : Int))) 0 1000000000
    · have hr : Hid (optV (lapR s.data.toList) = .tuple #[.int .i64 0, .bool false]) := Lib.hid (by rw [hq2.out, if_neg (by rintro ⟨_, _, _, h⟩; rw [inB_iff.2 ⟨by omega, by omega⟩] at z3; cases z3)]; rfl)
      go_enter Tryd.func29, Tryd.ntmps29
      go_wp2_with (first
      | (go_at_call 69; refine hc.out.mono ?_; rintro e w1 ⟨g, cap, rfl, hcap, c0, c1, b1⟩)
      | (go_at_call 70; refine (digit_any _ _).mono ?_; rintro e w' ⟨rfl, rfl⟩)
      | (go_at_call 71; refine (cN.out _).mono ?_; rintro e w' ⟨rfl, rfl⟩)
      | (go_at_call 67; refine (l02Mass_any _ _).mono ?_; rintro e w' ⟨rfl, rfl⟩))
      go_quiet (fail)
      clear e1 e2 e3 e4 e5 e6
      go_wp2_with (first
      | (go_at_call 69; refine hc.out.mono ?_; rintro e w1 ⟨g, cap, rfl, hcap, c0, c1, b1⟩)
      | (go_at_call 70; refine (digit_any _ _).mono ?_; rintro e w' ⟨rfl, rfl⟩)
      | (go_at_call 71; refine (cN.out _).mono ?_; rintro e w' ⟨rfl, rfl⟩)
      | (go_at_call 67; refine (l02Mass_any _ _).mono ?_; rintro e w' ⟨rfl, rfl⟩))
      go_ret2
      exact ⟨congrArg Ending.returned hr.out.symm, belowN b1 _⟩
    obtain ⟨m2, m3⟩ := inB_iff.1 z3
    have hr : Hid (optV (lapR s.data.toList) = .tuple #[.int .i64 (60 * m + (10 * (x : Int) + (y : Int))), .bool true]) := Lib.hid (by
      rw [hq2.out, if_pos ⟨m0, m1, z2, by omega⟩]
      show Value.tuple #[.int .i64 (60 * m + ((10 * x + y : Nat) : Int)), .bool true] = _
      have : 60 * m + ((10 * x + y : Nat) : Int) = 60 * m + (10 * (x : Int) + (y : Int)) := by omega
      rw [this])
    go_enter Tryd.func29, Tryd.ntmps29
    go_wp2_with (first
      | (go_at_call 69; refine hc.out.mono ?_; rintro e w1 ⟨g, cap, rfl, hcap, c0, c1, b1⟩)
      | (go_at_call 70; refine (digit_any _ _).mono ?_; rintro e w' ⟨rfl, rfl⟩)
      | (go_at_call 71; refine (cN.out _).mono ?_; rintro e w' ⟨rfl, rfl⟩)
      | (go_at_call 67; refine (l02Mass_any _ _).mono ?_; rintro e w' ⟨rfl, rfl⟩))
    go_quiet (fail)
    clear e1 e2 e3 e4 e5 e6
    go_wp2_with (first
      | (go_at_call 69; refine hc.out.mono ?_; rintro e w1 ⟨g, cap, rfl, hcap, c0, c1, b1⟩)
      | (go_at_call 70; refine (digit_any _ _).mono ?_; rintro e w' ⟨rfl, rfl⟩)
      | (go_at_call 71; refine (cN.out _).mono ?_; rintro e w' ⟨rfl, rfl⟩)
      | (go_at_call 67; refine (l02Mass_any _ _).mono ?_; rintro e w' ⟨rfl, rfl⟩))
    go_ret2
    exact ⟨congrArg Ending.returned hr.out.symm, belowN b1 _⟩
end Go.Proofs.YtglpmdoigoicbaaDoor
