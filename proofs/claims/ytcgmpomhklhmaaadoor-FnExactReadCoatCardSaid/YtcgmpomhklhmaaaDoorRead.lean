/-
  Contracts of ReadDecimal: the model's.
-/
import Derived.Test.YtcgmpomhklhmaaaDoorCore2
import Derived.Test.YtcgmpomhklhmaaaDoorReadMath
namespace Go.Proofs.YtcgmpomhklhmaaaDoor
open Go.ChangeShapes Go.WideShapes Go.ChangeAt Go.RowKit
set_option linter.unusedVariables false
set_option linter.unusedSimpArgs false

theorem digit_any (c : UInt8) (w : World) : Calls Tryd.prog 44 #[.int .u8 c.toNat] w fun e w' => e = .returned (.bool (db c)) ∧ w = w' := by
  by_cases h1 : (48 : Int) ≤ c.toNat <;> by_cases h2 : (c.toNat : Int) ≤ 57
  all_goals
    go_enter Tryd.func44, Tryd.ntmps44
    go_wp2
    go_ret
    exact ⟨ret_bool (by rw [← db_of]; unfold inB; simp [h1, h2]), rfl⟩
/-- number and true, or 0 and false -/
def optV (o : Option Int) : Value := match o with | none => .tuple #[.int .i64 0, .bool false] | some n => .tuple #[.int .i64 n, .bool true]
theorem at_cases (s : ByteArray) : (s.data.toList.headD 0 = 45 ∧ atD s.data.toList = 1) ∨ (s.data.toList.headD 0 ≠ 45 ∧ atD s.data.toList = 0) := by
  unfold atD
  by_cases h : s.data.toList.headD 0 = 45
  · left; exact ⟨h, by rw [if_pos h]⟩
  · right; exact ⟨h, by rw [if_neg h]⟩
theorem drop_len (s : ByteArray) (a : Nat) : (s.data.toList.drop a).length = s.size - a := by rw [List.length_drop, len_data]
theorem drop_head (s : ByteArray) (a : Nat) (h : a < s.size) : (s.data.toList.drop a).headD 0 = s[a] := by
  have hl : a < s.data.toList.length := by rw [len_data]; exact h
  rw [List.drop_eq_getElem_cons hl]; rfl
theorem drop_take_snoc (s : ByteArray) (a k : Nat) (h : a ≤ k) (hk : k < s.size) : (s.data.toList.drop a).take (k + 1 - a) = (s.data.toList.drop a).take (k - a) ++ [s[k]] := piece_snoc s a k h hk
theorem drop_take_all (s : ByteArray) (a : Nat) : (s.data.toList.drop a).take (s.size - a) = s.data.toList.drop a := by
  rw [List.take_of_length_le]; rw [drop_len]; exact Nat.le_refl _
theorem take_all_of {l : List UInt8} {k : Nat} (h : l.all db = true) : (l.take k).all db = true := by
  rw [List.all_eq_true] at h ⊢
  exact fun x hx => h x (List.mem_of_mem_take hx)
theorem drop_fail (s : ByteArray) (a k : Nat) (h : a ≤ k) (hk : k < s.size) (hc : db s[k] = false) : (s.data.toList.drop a).all db = false := by
  refine all_fail (c := s[k]) ?_ hc
  have hl : k - a < (s.data.toList.drop a).length := by rw [drop_len]; omega
  have e : s[k] = (s.data.toList.drop a)[k - a] := by
    rw [List.getElem_drop]
    have : a + (k - a) = k := by omega
    simp only [this]; rfl
  rw [e]; exact List.getElem_mem _

/-- behind the sign: the digits are read one by one -/
def numAt (s : ByteArray) (a k m : Nat) : Prop := ((s.data.toList.drop a).take (k - a)).all db = true ∧ m = valF 0 ((s.data.toList.drop a).take (k - a))
theorem numAt_start (s : ByteArray) (a : Nat) : numAt s a a 0 := by unfold numAt; rw [Nat.sub_self]; exact ⟨rfl, rfl⟩
theorem numAt_step {s : ByteArray} {a k m : Nat} (h : numAt s a k m) (ha : a ≤ k) (hk : k < s.size) (hc : db s[k] = true) : numAt s a (k + 1) (10 * m + (s[k].toNat - 48)) := by
  unfold numAt at h ⊢
  rw [drop_take_snoc s a k ha hk, valF_snoc, ← h.2]
  exact ⟨all_snoc h.1 hc, rfl⟩
theorem numAt_lt {s : ByteArray} {a k m : Nat} (h : numAt s a k m) (hl : k - a ≤ 18) : m < 1000000000000000000 := by
  rw [h.2]
  exact val_lt18 _ h.1 (Nat.le_trans (List.length_take_le _ _) hl)
theorem numAt_lt17 {s : ByteArray} {a k m : Nat} (h : numAt s a k m) (hl : k - a ≤ 17) : m < 100000000000000000 := by
  rw [h.2]
  have h1 := valF_lt _ h.1 0
  have h2 : ((s.data.toList.drop a).take (k - a)).length ≤ 17 := Nat.le_trans (List.length_take_le _ _) hl
  have h3 : 10 ^ ((s.data.toList.drop a).take (k - a)).length ≤ 10 ^ 17 := Nat.pow_le_pow_right (by omega) h2
  simp only [Nat.zero_add, Nat.one_mul] at h1
  omega
theorem numAt_end {s : ByteArray} {a m : Nat} (h : numAt s a s.size m) : (s.data.toList.drop a).all db = true ∧ m = valF 0 (s.data.toList.drop a) := by
  unfold numAt at h; rw [drop_take_all] at h; exact h

set_option maxHeartbeats 3200000 in
theorem l01Number_neg (s : ByteArray) (w : World) (hs : s.size ≤ maxLen) (hpos : 0 < s.size) (h45 : s[0] = 45) :
    Calls Tryd.prog 39 #[.string s] w fun e w' => e = .returned (optV (readD s.data.toList)) ∧ w = w' := by
  unfold maxLen at hs
  have hh : s.data.toList.headD 0 = s[0] := head_at s hpos
  have hat : atD s.data.toList = 1 := by unfold atD; rw [hh]; rw [if_pos h45]
  have hr0 : Hid (badD s.data.toList → optV (readD s.data.toList) = .tuple #[.int .i64 0, .bool false]) := Lib.hid (fun h => by rw [readD_bad h]; rfl)
  have hbad : Hid (badD s.data.toList ↔ ((s.size - 1 = 0 ∨ 18 < s.size - 1 ∨ ((s.data.toList.drop 1).headD 0 = 48 ∧ 1 < s.size) ∨ (s.data.toList.drop 1).all db = false))) := Lib.hid (by
    unfold badD; rw [hat, drop_len, len_data])
  have hgood : Hid (¬ badD s.data.toList → optV (readD s.data.toList) = .tuple #[.int .i64 (-(valF 0 (s.data.toList.drop 1) : Int)), .bool true]) := Lib.hid (fun h => by
    unfold readD; rw [if_neg h, hat, hh, if_pos h45]; rfl)
  have f45 : ((s[0].toNat : Int) == 45) = true := by rw [h45]; rfl
  clear hh hat h45
  by_cases z0 : s.size = 1
  · have t0 : ((s.size : Int) == 1) = true := by rw [z0]; rfl
    go_enter Tryd.func39, Tryd.ntmps39
    go_wp2
    go_ret2
    exact ⟨congrArg Ending.returned (hr0.out (hbad.out.2 (by omega))).symm, rfl⟩
  have t0 : ((s.size : Int) == 1) = false := by rw [beq_eq_false_iff_ne]; omega
  by_cases z1 : 18 < s.size - 1
  · have t1 : decide ((18 : Int) < (s.size : Int) - 1) = true := by simp; omega
    go_enter Tryd.func39, Tryd.ntmps39
    go_wp2
    go_ret2
    exact ⟨congrArg Ending.returned (hr0.out (hbad.out.2 (by omega))).symm, rfl⟩
  have hsz : 1 < s.size := by omega
  have t1 : decide ((18 : Int) < (s.size : Int) - 1) = false := by simp; omega
  have t2 : decide ((1 : Int) < (s.size : Int)) = true := by simp; omega
  have hh2 := Lib.hid (drop_head s 1 hsz)
  by_cases z2 : s[1] = 48
  · have z2' : ((s[1].toNat : Int) == 48) = true := by rw [z2]; rfl
    have z2h := Lib.hid z2
    clear z2
    have z3 : 1 < s.size := hsz
    go_enter Tryd.func39, Tryd.ntmps39
    go_wp2
    go_ret2
    exact ⟨congrArg Ending.returned (hr0.out (hbad.out.2 (by exact Or.inr (Or.inr (Or.inl ⟨by rw [hh2.out]; exact z2h.out, by omega⟩))))).symm, rfl⟩
  have hnb : Hid (¬ ((s.data.toList.drop 1).headD 0 = 48 ∧ 1 < s.size)) := Lib.hid (fun h => z2 (by rw [← hh2.out]; exact h.1))
  have z2' : ((s[1].toNat : Int) == 48) = false := by rw [beq_eq_false_iff_ne]; intro h; exact z2 (UInt8.toNat_inj.1 (by have e : (48 : UInt8).toNat = 48 := rfl; omega))
  clear z2
  have hlen18 : s.size - 1 ≤ 18 := by omega
  go_enter Tryd.func39, Tryd.ntmps39
  go_wp2
  go_loop [5, 6] (fun m i => ∃ k q : Nat, 1 ≤ k ∧ k ≤ s.size ∧ i = .int .i64 k ∧ m = .int .i64 q ∧ q < 1000000000000000000 ∧ Hid (numAt s 1 k q)) (fun _ i => s.size - (intOf i).toNat)
  case atStart => exact ⟨1, 0, by omega, by omega, rfl, rfl, by omega, Lib.hid (numAt_start s 1)⟩
  case round =>
    obtain ⟨k, q, hk0, hk, rfl, rfl, hq, hn⟩ := hrel
    by_cases hlt : k < s.size
    · cases hd : db s[k]
      · have hf := Lib.hid (drop_fail s 1 k hk0 hlt hd)
        go_wp2_with (go_at_call 44; refine (digit_any _ _).mono ?_; rintro e w' ⟨rfl, rfl⟩)
        go_ret2
        exact ⟨congrArg Ending.returned (hr0.out (hbad.out.2 (Or.inr (Or.inr (Or.inr hf.out))))).symm, rfl⟩
      · have hst := Lib.hid (numAt_step hn.out hk0 hlt hd)
        have hdd := (db_iff s[k]).1 hd
        have hq17 := numAt_lt17 hn.out (by omega)
        go_wp2_with (go_at_call 44; refine (digit_any _ _).mono ?_; rintro e w' ⟨rfl, rfl⟩)
        go_round
        case rel => exact ⟨k + 1, 10 * q + (s[k].toNat - 48), by omega, by omega, by go_num, by go_num, numAt_lt hst.out (by omega), hst⟩
        case measure => simp [intOf]; omega
    · have hks : k = s.size := by omega
      have hne : Hid ((s.data.toList.drop 1).all db = true ∧ q = valF 0 (s.data.toList.drop 1)) := Lib.hid (numAt_end (by rw [← hks]; exact hn.out))
      have hgd : Hid (optV (readD s.data.toList) = .tuple #[.int .i64 (-(q : Int)), .bool true]) := Lib.hid (by
        rw [hne.out.2]
        refine hgood.out (fun hb => ?_)
        rcases hbad.out.1 hb with h | h | h | h
        · omega
        · omega
        · exact hnb.out h
        · rw [hne.out.1] at h; cases h)
      clear hks
      go_wp2
      go_ret2
      exact ⟨congrArg Ending.returned hgd.out.symm, rfl⟩

set_option maxHeartbeats 3200000 in
theorem l01Number_pos (s : ByteArray) (w : World) (hs : s.size ≤ maxLen) (hpos : 0 < s.size) (h45 : s[0] ≠ 45) :
    Calls Tryd.prog 39 #[.string s] w fun e w' => e = .returned (optV (readD s.data.toList)) ∧ w = w' := by
  unfold maxLen at hs
  have hh : s.data.toList.headD 0 = s[0] := head_at s hpos
  have hat : atD s.data.toList = 0 := by unfold atD; rw [hh]; rw [if_neg h45]
  have hr0 : Hid (badD s.data.toList → optV (readD s.data.toList) = .tuple #[.int .i64 0, .bool false]) := Lib.hid (fun h => by rw [readD_bad h]; rfl)
  have hbad : Hid (badD s.data.toList ↔ ((s.size - 0 = 0 ∨ 18 < s.size - 0 ∨ ((s.data.toList.drop 0).headD 0 = 48 ∧ 1 < s.size) ∨ (s.data.toList.drop 0).all db = false))) := Lib.hid (by
    unfold badD; rw [hat, drop_len, len_data])
  have hgood : Hid (¬ badD s.data.toList → optV (readD s.data.toList) = .tuple #[.int .i64 ((valF 0 (s.data.toList.drop 0) : Int)), .bool true]) := Lib.hid (fun h => by
    unfold readD; rw [if_neg h, hat, hh, if_neg h45]; rfl)
  have f45 : ((s[0].toNat : Int) == 45) = false := by rw [beq_eq_false_iff_ne]; intro h; exact h45 (UInt8.toNat_inj.1 (by have e : (45 : UInt8).toNat = 45 := rfl; omega))
  clear hh hat h45
  have t0 : ((s.size : Int) == 0) = false := by rw [beq_eq_false_iff_ne]; omega
  by_cases z1 : 18 < s.size - 0
  · have t1 : decide ((18 : Int) < (s.size : Int)) = true := by simp; omega
    go_enter Tryd.func39, Tryd.ntmps39
    go_wp2
    go_ret2
    exact ⟨congrArg Ending.returned (hr0.out (hbad.out.2 (by omega))).symm, rfl⟩
  have hsz : 0 < s.size := by omega
  have t1 : decide ((18 : Int) < (s.size : Int)) = false := by simp; omega
  have hh2 := Lib.hid (drop_head s 0 hsz)
  by_cases z2 : s[0] = 48
  · by_cases z3 : 1 < s.size
    · have t2 : decide ((1 : Int) < (s.size : Int)) = true := by simp; omega
      have z2' : ((s[0].toNat : Int) == 48) = true := by rw [z2]; rfl
      have z2h := Lib.hid z2
      clear z2
      go_enter Tryd.func39, Tryd.ntmps39
      go_wp2
      go_ret2
      exact ⟨congrArg Ending.returned (hr0.out (hbad.out.2 (by exact Or.inr (Or.inr (Or.inl ⟨by rw [hh2.out]; exact z2h.out, by omega⟩))))).symm, rfl⟩
    · have t2 : decide ((1 : Int) < (s.size : Int)) = false := by simp; omega
      have hnb : Hid (¬ ((s.data.toList.drop 0).headD 0 = 48 ∧ 1 < s.size)) := Lib.hid (fun h => z3 h.2)
      have z2' : ((s[0].toNat : Int) == 48) = true := by rw [z2]; rfl
      clear z2
      have hlen18 : s.size - 0 ≤ 18 := by omega
      go_enter Tryd.func39, Tryd.ntmps39
      go_wp2
      go_loop [5, 6] (fun m i => ∃ k q : Nat, 0 ≤ k ∧ k ≤ s.size ∧ i = .int .i64 k ∧ m = .int .i64 q ∧ q < 1000000000000000000 ∧ Hid (numAt s 0 k q)) (fun _ i => s.size - (intOf i).toNat)
      case atStart => exact ⟨0, 0, by omega, by omega, rfl, rfl, by omega, Lib.hid (numAt_start s 0)⟩
      case round =>
        obtain ⟨k, q, hk0, hk, rfl, rfl, hq, hn⟩ := hrel
        by_cases hlt : k < s.size
        · cases hd : db s[k]
          · have hf := Lib.hid (drop_fail s 0 k hk0 hlt hd)
            go_wp2_with (go_at_call 44; refine (digit_any _ _).mono ?_; rintro e w' ⟨rfl, rfl⟩)
            go_ret2
            exact ⟨congrArg Ending.returned (hr0.out (hbad.out.2 (Or.inr (Or.inr (Or.inr hf.out))))).symm, rfl⟩
          · have hst := Lib.hid (numAt_step hn.out hk0 hlt hd)
            have hdd := (db_iff s[k]).1 hd
            have hq17 := numAt_lt17 hn.out (by omega)
            go_wp2_with (go_at_call 44; refine (digit_any _ _).mono ?_; rintro e w' ⟨rfl, rfl⟩)
            go_round
            case rel => exact ⟨k + 1, 10 * q + (s[k].toNat - 48), by omega, by omega, by go_num, by go_num, numAt_lt hst.out (by omega), hst⟩
            case measure => simp [intOf]; omega
        · have hks : k = s.size := by omega
          have hne : Hid ((s.data.toList.drop 0).all db = true ∧ q = valF 0 (s.data.toList.drop 0)) := Lib.hid (numAt_end (by rw [← hks]; exact hn.out))
          have hgd : Hid (optV (readD s.data.toList) = .tuple #[.int .i64 ((q : Int)), .bool true]) := Lib.hid (by
            rw [hne.out.2]
            refine hgood.out (fun hb => ?_)
            rcases hbad.out.1 hb with h | h | h | h
            · omega
            · omega
            · exact hnb.out h
            · rw [hne.out.1] at h; cases h)
          clear hks
          go_wp2
          go_ret2
          exact ⟨congrArg Ending.returned hgd.out.symm, rfl⟩
  have hnb : Hid (¬ ((s.data.toList.drop 0).headD 0 = 48 ∧ 1 < s.size)) := Lib.hid (fun h => z2 (by rw [← hh2.out]; exact h.1))
  have z2' : ((s[0].toNat : Int) == 48) = false := by rw [beq_eq_false_iff_ne]; intro h; exact z2 (UInt8.toNat_inj.1 (by have e : (48 : UInt8).toNat = 48 := rfl; omega))
  clear z2
  have hlen18 : s.size - 0 ≤ 18 := by omega
  go_enter Tryd.func39, Tryd.ntmps39
  go_wp2
  go_loop [5, 6] (fun m i => ∃ k q : Nat, 0 ≤ k ∧ k ≤ s.size ∧ i = .int .i64 k ∧ m = .int .i64 q ∧ q < 1000000000000000000 ∧ Hid (numAt s 0 k q)) (fun _ i => s.size - (intOf i).toNat)
  case atStart => exact ⟨0, 0, by omega, by omega, rfl, rfl, by omega, Lib.hid (numAt_start s 0)⟩
  case round =>
    obtain ⟨k, q, hk0, hk, rfl, rfl, hq, hn⟩ := hrel
    by_cases hlt : k < s.size
    · cases hd : db s[k]
      · have hf := Lib.hid (drop_fail s 0 k hk0 hlt hd)
        go_wp2_with (go_at_call 44; refine (digit_any _ _).mono ?_; rintro e w' ⟨rfl, rfl⟩)
        go_ret2
        exact ⟨congrArg Ending.returned (hr0.out (hbad.out.2 (Or.inr (Or.inr (Or.inr hf.out))))).symm, rfl⟩
      · have hst := Lib.hid (numAt_step hn.out hk0 hlt hd)
        have hdd := (db_iff s[k]).1 hd
        have hq17 := numAt_lt17 hn.out (by omega)
        go_wp2_with (go_at_call 44; refine (digit_any _ _).mono ?_; rintro e w' ⟨rfl, rfl⟩)
        go_round
        case rel => exact ⟨k + 1, 10 * q + (s[k].toNat - 48), by omega, by omega, by go_num, by go_num, numAt_lt hst.out (by omega), hst⟩
        case measure => simp [intOf]; omega
    · have hks : k = s.size := by omega
      have hne : Hid ((s.data.toList.drop 0).all db = true ∧ q = valF 0 (s.data.toList.drop 0)) := Lib.hid (numAt_end (by rw [← hks]; exact hn.out))
      have hgd : Hid (optV (readD s.data.toList) = .tuple #[.int .i64 ((q : Int)), .bool true]) := Lib.hid (by
        rw [hne.out.2]
        refine hgood.out (fun hb => ?_)
        rcases hbad.out.1 hb with h | h | h | h
        · omega
        · omega
        · exact hnb.out h
        · rw [hne.out.1] at h; cases h)
      clear hks
      go_wp2
      go_ret2
      exact ⟨congrArg Ending.returned hgd.out.symm, rfl⟩

theorem l01Number_any (s : ByteArray) (w : World) (hs : s.size ≤ maxLen) :
    Calls Tryd.prog 39 #[.string s] w fun e w' => e = .returned (optV (readD s.data.toList)) ∧ w = w' := by
  by_cases h0 : s.size = 0
  · have hb : badD s.data.toList := Or.inl (by rw [drop_len]; omega)
    have hr : Hid (optV (readD s.data.toList) = .tuple #[.int .i64 0, .bool false]) := Lib.hid (by rw [readD_bad hb]; rfl)
    clear hb
    go_enter Tryd.func39, Tryd.ntmps39
    go_wp2
    go_ret2
    exact ⟨congrArg Ending.returned hr.out.symm, rfl⟩
  · by_cases h45 : s[0] = 45
    · exact l01Number_neg s w hs (by omega) h45
    · exact l01Number_pos s w hs (by omega) h45
end Go.Proofs.YtcgmpomhklhmaaaDoor
