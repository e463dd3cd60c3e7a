/-
  Contracts of the model's readers of chapter 2.
-/
import Derived.Test.YtjgpckocmjolmaaGreatDoorRead
import Derived.Test.YtjgpckocmjolmaaGreatDoorText5
namespace Go.Proofs.YtjgpckocmjolmaaGreatDoor
open Go.ChangeShapes Go.WideShapes Go.ChangeAt Go.RowKit
set_option linter.unusedVariables false
set_option linter.unusedSimpArgs false
def digA (l : List UInt8) : Bool := l.all db
def digV (l : List UInt8) : Int := if digA l = true then (valF 0 l : Int) else 0
theorem digV_t {l : List UInt8} (h : digA l = true) : digV l = (valF 0 l : Int) := by unfold digV; rw [if_pos h]
theorem digV_f {l : List UInt8} (h : digA l = false) : digV l = 0 := by unfold digV; rw [h]; rfl
set_option maxHeartbeats 1600000 in
theorem l02Digits_any (s : ByteArray) (hs : s.size ≤ 18) (w : World) : Calls Tryz.prog 28 #[.string s] w fun e w' => e = .returned (.tuple #[.int .i64 (digV s.data.toList), .bool (digA s.data.toList)]) ∧ w = w' := by
  go_enter Tryz.func28, Tryz.ntmps28
  go_wp2
  go_loop [4, 5] (fun m i => ∃ k q : Nat, k ≤ s.size ∧ i = .int .i64 k ∧ m = .int .i64 q ∧ q < 1000000000000000000 ∧ Hid (numAt s 0 k q)) (fun _ i => s.size - (intOf i).toNat)
  case atStart => exact ⟨0, 0, by omega, rfl, rfl, by omega, Lib.hid (numAt_start s 0)⟩
  case round =>
    obtain ⟨k, q, hk, rfl, rfl, hq, hn⟩ := hrel
    by_cases hlt : k < s.size
    · cases hd : db s[k]
      · have hf : Hid (digA s.data.toList = false) := Lib.hid (drop_fail s 0 k (Nat.zero_le _) hlt hd)
        go_wp2_with (go_at_call 49; refine (digit_any _ _).mono ?_; rintro e w' ⟨rfl, rfl⟩)
        go_ret2
        exact ⟨by rw [hf.out, digV_f hf.out]; rfl, rfl⟩
      · have hst := Lib.hid (numAt_step hn.out (Nat.zero_le _) hlt hd)
        have hdd := (db_iff s[k]).1 hd
        have hq17 := numAt_lt17 hn.out (by omega)
        go_wp2_with (go_at_call 49; refine (digit_any _ _).mono ?_; rintro e w' ⟨rfl, rfl⟩)
        go_round
        case rel => exact ⟨k + 1, 10 * q + (s[k].toNat - 48), by omega, by go_num, by go_num, numAt_lt hst.out (by omega), hst⟩
        case measure => simp [intOf]; omega
    · have hks : k = s.size := by omega
      have hne : Hid (digA s.data.toList = true ∧ q = valF 0 s.data.toList) := Lib.hid (numAt_end (a := 0) (by rw [← hks]; exact hn.out))
      clear hks
      go_wp2
      go_ret2
      exact ⟨by rw [hne.out.1, digV_t hne.out.1, hne.out.2]; rfl, rfl⟩
theorem byte_at (s : ByteArray) (k : Nat) (h : k < s.size) : s.data.toList.getD k 0 = s[k] := by
  have hl : k < s.data.toList.length := by rw [len_data]; exact h
  rw [List.getD_eq_getElem?_getD, List.getElem?_eq_getElem hl]; rfl
theorem byte_ne {c : UInt8} {z : Int} (d : UInt8) (hz : z = (d.toNat : Int)) (h : c ≠ d) : ((c.toNat : Int) == z) = false := by
  subst hz
  rw [beq_eq_false_iff_ne]; intro e; exact h (UInt8.toNat_inj.1 (by omega))
theorem byte_eq {c : UInt8} {z : Int} (d : UInt8) (hz : z = (d.toNat : Int)) (h : c = d) : ((c.toNat : Int) == z) = true := by
  subst hz; subst h; simp
theorem size_ex (s : ByteArray) (a b : Nat) (h : a ≤ b) (hb : b ≤ s.size) : (s.extract a b).size = b - a := by
  rw [← len_data, extract_piece, piece_len _ _ _ (by rw [len_data]; exact hb)]
/-- the model's digits of a part of a text -/
theorem dig_part (s : ByteArray) (a b : Nat) (h : a ≤ b) (hb : b ≤ s.size) (hl : b - a ≤ 18) : Hid (∀ W, Calls Tryz.prog 28 #[.string (s.extract a b)] W fun e w' => e = .returned (.tuple #[.int .i64 (digV (piece s.data.toList a b)), .bool (digA (piece s.data.toList a b))]) ∧ W = w') :=
  Lib.hid (fun W => by
    have := l02Digits_any (s.extract a b) (by rw [size_ex s a b h hb]; exact hl) W
    rw [extract_piece] at this; exact this)
theorem val_part (l : List UInt8) (k : Nat) (h : digA l = true) (hk : l.length = k) : valF 0 l < 10 ^ k := by
  have := valF_lt l h 0
  rw [hk] at this; simpa using this
set_option maxHeartbeats 3200000 in
set_option maxRecDepth 1000000 in
theorem l02Read_any (s : ByteArray) (hs : s.size ≤ 1048576) (w : World) : Calls Tryz.prog 14 #[.string s] w fun e w' => e = .returned (optV (dateR s.data.toList)) ∧ Below w.heap.size w w' := by
  by_cases z0 : s.size = 10
  rotate_left
  · have hr : Hid (optV (dateR s.data.toList) = .tuple #[.int .i64 0, .bool false]) := Lib.hid (by unfold dateR; rw [if_neg (by rintro ⟨h1, h2, h3, h4, h5, h6, h7⟩; exact z0 h1)]; rfl)
    have t0 : ((s.size : Int) == 10) = false := by rw [beq_eq_false_iff_ne]; omega
    have u0 : ((s.size : Int) != 10) = true := by unfold bne; rw [t0]; rfl
    clear z0
    go_enter Tryz.func14, Tryz.ntmps14
    go_wp2_with (fail)
    go_ret2
    exact ⟨congrArg Ending.returned hr.out.symm, Below.refl _ _⟩
  have t0 : ((s.size : Int) == 10) = true := by rw [z0]; rfl
  have u0 : ((s.size : Int) != 10) = false := by unfold bne; rw [t0]; rfl
  have hsz : 10 ≤ s.size := by omega
  have hsz2 : s.size ≤ 10 := by omega
  have hz0 := Lib.hid z0
  clear z0
  have hb4 := Lib.hid (byte_at s 4 (by omega))
  by_cases z4 : s[4] = 45
  rotate_left
  · have hr : Hid (optV (dateR s.data.toList) = .tuple #[.int .i64 0, .bool false]) := Lib.hid (by unfold dateR; rw [if_neg (by rintro ⟨h1, h2, h3, h4, h5, h6, h7⟩; exact z4 (hb4.out.symm.trans h2))]; rfl)
    have t4 := byte_ne (z := 45) 45 rfl z4
    have u4 : ((s[4].toNat : Int) != 45) = true := by unfold bne; rw [t4]; rfl
    clear z4
    go_enter Tryz.func14, Tryz.ntmps14
    go_wp2_with (fail)
    go_ret2
    exact ⟨congrArg Ending.returned hr.out.symm, Below.refl _ _⟩
  have t4 := byte_eq (z := 45) 45 rfl z4
  have u4 : ((s[4].toNat : Int) != 45) = false := by unfold bne; rw [t4]; rfl
  have e4 := Lib.hid (hb4.out.trans z4)
  clear z4
  have hb7 := Lib.hid (byte_at s 7 (by omega))
  by_cases z7 : s[7] = 45
  rotate_left
  · have hr : Hid (optV (dateR s.data.toList) = .tuple #[.int .i64 0, .bool false]) := Lib.hid (by unfold dateR; rw [if_neg (by rintro ⟨h1, h2, h3, h4, h5, h6, h7⟩; exact z7 (hb7.out.symm.trans h3))]; rfl)
    have t7 := byte_ne (z := 45) 45 rfl z7
    have u7 : ((s[7].toNat : Int) != 45) = true := by unfold bne; rw [t7]; rfl
    clear z7
    go_enter Tryz.func14, Tryz.ntmps14
    go_wp2_with (fail)
    go_ret2
    exact ⟨congrArg Ending.returned hr.out.symm, Below.refl _ _⟩
  have t7 := byte_eq (z := 45) 45 rfl z7
  have u7 : ((s[7].toNat : Int) != 45) = false := by unfold bne; rw [t7]; rfl
  have e7 := Lib.hid (hb7.out.trans z7)
  clear z7
  have g7 : (7 : Int) ≤ (s.size : Int) := by omega
  have g8 : (8 : Int) ≤ (s.size : Int) := by omega
  have g7n : 7 ≤ s.size := by omega
  have c1 := dig_part s 0 4 (by omega) (by omega) (by omega)
  have c2 := dig_part s 5 7 (by omega) (by omega) (by omega)
  have c3 := dig_part s 8 s.size (by omega) (by omega) (by omega)
  have ce : Hid (piece s.data.toList 8 s.size = piece s.data.toList 8 10) := Lib.hid (by rw [hz0.out])
  rw [ce.out] at c3
  clear ce
  have l1 : (piece s.data.toList 0 4).length = 4 := piece_len _ _ _ (by rw [len_data]; omega)
  obtain ⟨p1, hp1⟩ : ∃ p, p = piece s.data.toList 0 4 := ⟨_, rfl⟩
  have hp1' := Lib.hid hp1
  rw [← hp1] at c1 l1
  clear hp1
  have l2 : (piece s.data.toList 5 7).length = 2 := piece_len _ _ _ (by rw [len_data]; omega)
  obtain ⟨p2, hp2⟩ : ∃ p, p = piece s.data.toList 5 7 := ⟨_, rfl⟩
  have hp2' := Lib.hid hp2
  rw [← hp2] at c2 l2
  clear hp2
  have l3 : (piece s.data.toList 8 10).length = 2 := piece_len _ _ _ (by rw [len_data]; omega)
  obtain ⟨p3, hp3⟩ : ∃ p, p = piece s.data.toList 8 10 := ⟨_, rfl⟩
  have hp3' := Lib.hid hp3
  rw [← hp3] at c3 l3
  clear hp3
  cases b1 : digA p1
  · have hr : Hid (optV (dateR s.data.toList) = .tuple #[.int .i64 0, .bool false]) := Lib.hid (by unfold dateR; rw [if_neg (by rintro ⟨h1, h2, h3, h4, h5, h6, h7⟩; rw [← hp1'.out] at h4; rw [show digA p1 = true from h4] at b1; cases b1)]; rfl)
    rw [b1, digV_f b1] at c1
    cases b2 : digA p2
    · rw [b2, digV_f b2] at c2
      cases b3 : digA p3
      · rw [b3, digV_f b3] at c3
        go_enter Tryz.func14, Tryz.ntmps14
        go_wp2_with (first
      | (go_at_call 28; (with_reducible refine (c1.out _).mono ?_); rintro e w' ⟨rfl, rfl⟩)
      | (go_at_call 28; (with_reducible refine (c2.out _).mono ?_); rintro e w' ⟨rfl, rfl⟩)
      | (go_at_call 28; (with_reducible refine (c3.out _).mono ?_); rintro e w' ⟨rfl, rfl⟩)
        )
        go_ret2
        exact ⟨congrArg Ending.returned hr.out.symm, Below.refl _ _⟩
      · rw [b3, digV_t b3] at c3
        go_enter Tryz.func14, Tryz.ntmps14
        go_wp2_with (first
      | (go_at_call 28; (with_reducible refine (c1.out _).mono ?_); rintro e w' ⟨rfl, rfl⟩)
      | (go_at_call 28; (with_reducible refine (c2.out _).mono ?_); rintro e w' ⟨rfl, rfl⟩)
      | (go_at_call 28; (with_reducible refine (c3.out _).mono ?_); rintro e w' ⟨rfl, rfl⟩)
        )
        go_ret2
        exact ⟨congrArg Ending.returned hr.out.symm, Below.refl _ _⟩
    · rw [b2, digV_t b2] at c2
      cases b3 : digA p3
      · rw [b3, digV_f b3] at c3
        go_enter Tryz.func14, Tryz.ntmps14
        go_wp2_with (first
      | (go_at_call 28; (with_reducible refine (c1.out _).mono ?_); rintro e w' ⟨rfl, rfl⟩)
      | (go_at_call 28; (with_reducible refine (c2.out _).mono ?_); rintro e w' ⟨rfl, rfl⟩)
      | (go_at_call 28; (with_reducible refine (c3.out _).mono ?_); rintro e w' ⟨rfl, rfl⟩)
        )
        go_ret2
        exact ⟨congrArg Ending.returned hr.out.symm, Below.refl _ _⟩
      · rw [b3, digV_t b3] at c3
        go_enter Tryz.func14, Tryz.ntmps14
        go_wp2_with (first
      | (go_at_call 28; (with_reducible refine (c1.out _).mono ?_); rintro e w' ⟨rfl, rfl⟩)
      | (go_at_call 28; (with_reducible refine (c2.out _).mono ?_); rintro e w' ⟨rfl, rfl⟩)
      | (go_at_call 28; (with_reducible refine (c3.out _).mono ?_); rintro e w' ⟨rfl, rfl⟩)
        )
        go_ret2
        exact ⟨congrArg Ending.returned hr.out.symm, Below.refl _ _⟩
  rw [b1, digV_t b1] at c1
  cases b2 : digA p2
  · have hr : Hid (optV (dateR s.data.toList) = .tuple #[.int .i64 0, .bool false]) := Lib.hid (by unfold dateR; rw [if_neg (by rintro ⟨h1, h2, h3, h4, h5, h6, h7⟩; rw [← hp2'.out] at h5; rw [show digA p2 = true from h5] at b2; cases b2)]; rfl)
    rw [b2, digV_f b2] at c2
    cases b3 : digA p3
    · rw [b3, digV_f b3] at c3
      go_enter Tryz.func14, Tryz.ntmps14
      go_wp2_with (first
      | (go_at_call 28; (with_reducible refine (c1.out _).mono ?_); rintro e w' ⟨rfl, rfl⟩)
      | (go_at_call 28; (with_reducible refine (c2.out _).mono ?_); rintro e w' ⟨rfl, rfl⟩)
      | (go_at_call 28; (with_reducible refine (c3.out _).mono ?_); rintro e w' ⟨rfl, rfl⟩)
      )
      go_ret2
      exact ⟨congrArg Ending.returned hr.out.symm, Below.refl _ _⟩
    · rw [b3, digV_t b3] at c3
      go_enter Tryz.func14, Tryz.ntmps14
      go_wp2_with (first
      | (go_at_call 28; (with_reducible refine (c1.out _).mono ?_); rintro e w' ⟨rfl, rfl⟩)
      | (go_at_call 28; (with_reducible refine (c2.out _).mono ?_); rintro e w' ⟨rfl, rfl⟩)
      | (go_at_call 28; (with_reducible refine (c3.out _).mono ?_); rintro e w' ⟨rfl, rfl⟩)
      )
      go_ret2
      exact ⟨congrArg Ending.returned hr.out.symm, Below.refl _ _⟩
  rw [b2, digV_t b2] at c2
  cases b3 : digA p3
  · have hr : Hid (optV (dateR s.data.toList) = .tuple #[.int .i64 0, .bool false]) := Lib.hid (by unfold dateR; rw [if_neg (by rintro ⟨h1, h2, h3, h4, h5, h6, h7⟩; rw [← hp3'.out] at h6; rw [show digA p3 = true from h6] at b3; cases b3)]; rfl)
    rw [b3, digV_f b3] at c3
    go_enter Tryz.func14, Tryz.ntmps14
    go_wp2_with (first
      | (go_at_call 28; (with_reducible refine (c1.out _).mono ?_); rintro e w' ⟨rfl, rfl⟩)
      | (go_at_call 28; (with_reducible refine (c2.out _).mono ?_); rintro e w' ⟨rfl, rfl⟩)
      | (go_at_call 28; (with_reducible refine (c3.out _).mono ?_); rintro e w' ⟨rfl, rfl⟩)
    )
    go_ret2
    exact ⟨congrArg Ending.returned hr.out.symm, Below.refl _ _⟩
  rw [b3, digV_t b3] at c3
  obtain ⟨x1, hx1⟩ : ∃ x, x = valF 0 p1 := ⟨_, rfl⟩
  rw [← hx1] at c1
  have hx1' := Lib.hid hx1
  have hb1x := Lib.hid b1
  clear hx1 b1
  obtain ⟨x2, hx2⟩ : ∃ x, x = valF 0 p2 := ⟨_, rfl⟩
  rw [← hx2] at c2
  have hx2' := Lib.hid hx2
  have hb2x := Lib.hid b2
  clear hx2 b2
  obtain ⟨x3, hx3⟩ : ∃ x, x = valF 0 p3 := ⟨_, rfl⟩
  rw [← hx3] at c3
  have hx3' := Lib.hid hx3
  have hb3x := Lib.hid b3
  clear hx3 b3
  have cN := Lib.hid (fun W => l02Number_any (x1 : Int) (x2 : Int) (x3 : Int) W)
  have hr : Hid (.tuple #[.int .i64 (numV (x1 : Int) (x2 : Int) (x3 : Int)), .bool (dateB (x1 : Int) (x2 : Int) (x3 : Int))] = optV (dateR s.data.toList)) := Lib.hid (by
    unfold dateR
    rw [← hp1'.out, ← hp2'.out, ← hp3'.out, ← hx1'.out, ← hx2'.out, ← hx3'.out]
    unfold numV
    cases hd : dateB (x1 : Int) (x2 : Int) (x3 : Int)
    · rw [if_neg (by rintro ⟨_, _, _, _, _, _, h⟩; cases h)]; rfl
    · rw [if_pos ⟨hz0.out, e4.out, e7.out, hb1x.out, hb2x.out, hb3x.out, rfl⟩]; rfl)
  obtain ⟨N, hN⟩ : ∃ N, N = numV (x1 : Int) (x2 : Int) (x3 : Int) := ⟨_, rfl⟩
  obtain ⟨d, hd⟩ : ∃ d, d = dateB (x1 : Int) (x2 : Int) (x3 : Int) := ⟨_, rfl⟩
  rw [← hN, ← hd] at hr cN
  clear hN hd
  go_enter Tryz.func14, Tryz.ntmps14
  go_wp2_with (first
      | (go_at_call 28; (with_reducible refine (c1.out _).mono ?_); rintro e w' ⟨rfl, rfl⟩)
      | (go_at_call 28; (with_reducible refine (c2.out _).mono ?_); rintro e w' ⟨rfl, rfl⟩)
      | (go_at_call 28; (with_reducible refine (c3.out _).mono ?_); rintro e w' ⟨rfl, rfl⟩)
      | (go_at_call 29; refine (cN.out _).mono ?_; rintro e w' ⟨rfl, b1⟩))
  go_ret2
  exact ⟨congrArg Ending.returned hr.out, b1⟩
end Go.Proofs.YtjgpckocmjolmaaGreatDoor
