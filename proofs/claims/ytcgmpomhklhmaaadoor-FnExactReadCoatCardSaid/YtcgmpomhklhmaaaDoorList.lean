/-
  Contracts of ListText: the model's.
-/
import Derived.Test.YtcgmpomhklhmaaaDoorDec
import Derived.Test.YtcgmpomhklhmaaaDoorInts
import Derived.Test.YtcgmpomhklhmaaaDoorListMath
namespace Go.Proofs.YtcgmpomhklhmaaaDoor
open Go.ChangeShapes Go.WideShapes Go.ChangeAt Go.RowKit
set_option linter.unusedVariables false
set_option linter.unusedSimpArgs false
theorem l00InV (n : Int) (w : World) : Calls Tryd.prog 30 #[.int .i64 n, .int .i64 (-1000000000000), .int .i64 1000000000000] w fun e w' => e = .returned (.bool (inV n)) ∧ w = w' := l00In_any _ _ _ _

set_option maxHeartbeats 3200000 in
theorem l01List_any (v : Value) (Z : List Int) (w : World) (hn : Z.length ≤ 64) (hv : IntsAt w v Z) :
    Calls Tryd.prog 32 #[v] w (StrRet (textZ Z) w) := by
  obtain ⟨a, cap, rfl, hcap, hzz, hread⟩ := hv
  rcases hread with rfl | ⟨g, o, rfl, hg, hc⟩
  · go_enter Tryd.func32, Tryd.ntmps32
    go_wp2
    go_ret
    exact ⟨rfl, Below.refl _ _⟩
  by_cases hz0 : Z.length = 0
  · have hr : Hid (textZ Z = [45]) := Lib.hid (by unfold textZ; rw [if_pos hz0])
    have h0 : ((Z.length : Int) == 0) = true := by rw [hz0]; rfl
    go_enter Tryd.func32, Tryd.ntmps32
    go_wp2
    go_ret
    exact ⟨by rw [hr.out]; rfl, Below.refl _ _⟩
  have hr : Hid (textZ Z = joinK Z Z.length) := Lib.hid (by unfold textZ; rw [if_neg hz0, joinK_all])
  have h0 : ((Z.length : Int) == 0) = false := by rw [beq_eq_false_iff_ne]; omega
  have hc' := Lib.hid hc
  have hzz' := Lib.hid hzz
  clear hc hzz
  go_enter Tryd.func32, Tryd.ntmps32
  go_wp2
  go_loopw [3, 4] (fun s i wr => ∃ (k : Nat) (S : ByteArray), k ≤ Z.length ∧ i = .int .i64 k ∧ s = .string S ∧ S.size ≤ 1408 ∧ Hid (S.data.toList = joinK Z k) ∧ Below w.heap.size w wr) (fun _ i _ => Z.length - (intOf i).toNat)
  case atStart => exact ⟨0, ⟨#[]⟩, by omega, rfl, rfl, by decide, Lib.hid rfl, Below.refl _ _⟩
  case round =>
    obtain ⟨k, S, hk, rfl, rfl, hS, hj, hbel⟩ := hrel
    have hsz := hbel.size
    by_cases hlt : k < Z.length
    · obtain ⟨z, hz⟩ : ∃ z, z = Z[k] := ⟨_, rfl⟩
      have hcx : wr.cell? ⟨g, o + k, none⟩ = some (.int .i64 z) := (hbel.cell (p := ⟨g, o + k, none⟩) hg).trans (by rw [hz]; exact hc'.out k hlt)
      have hzi : inI z := hzz'.out z (by rw [hz]; exact List.getElem_mem _)
      have hlen2 := joinK_le Z (k + 1) (fun n hn => hzz'.out n hn)
      obtain ⟨D, hD⟩ : ∃ D : ByteArray, D = ⟨(Lib.itoa z).toArray⟩ := ⟨_, rfl⟩
      have hDs : D.size ≤ 21 := by rw [hD]; show (Lib.itoa z).toArray.size ≤ 21; rw [List.size_toArray]; exact itoa_len hzi
      have hcd := l01Dec_any z hzi.1 hzi.2
      have hcd2 : ∀ W, Calls Tryd.prog 45 #[.int .i64 z] W fun e w' => e = .returned (.string D) ∧ Below W.heap.size W w' := fun W => by rw [hD]; exact hcd W
      have hcd' := Lib.hid hcd2
      have hDl : Hid (D.data.toList = Lib.itoa z) := Lib.hid (by rw [hD])
      have hz' := Lib.hid hz
      clear hz hD hcd hcd2 hzi
      by_cases hk0 : k = 0
      · subst hk0
        have hlen3 : (joinK Z 1).length ≤ 22 := joinK_le Z 1 (fun n hn => hzz'.out n hn)
        rw [Nat.add_zero] at hcx
        rw [show ((0 : Nat) : Int) = 0 from rfl]
        have hjn : Hid ((S ++ D).data.toList = joinK Z 1) := Lib.hid (by
          rw [ByteArray.data_append, Array.toList_append, hj.out, joinK_zero, List.nil_append, hDl.out, joinK_first Z hlt, ← hz'.out])
        have hs2 : (S ++ D).size ≤ 1408 := by have := len_data (S ++ D); rw [hjn.out] at this; omega
        have hs2' := Lib.hid hs2
        clear hs2
        go_wp2_with (go_at_call 45; refine (hcd'.out _).mono ?_; rintro e w1 ⟨rfl, hb1⟩)
        go_roundw
        case rel => exact ⟨1, S ++ D, by omega, by go_num, rfl, hs2'.out, hjn, hbel.trans (hb1.mono hsz)⟩
        case measure => simp [intOf]; omega
      · have hkp : 0 < k := by omega
        obtain ⟨C, hC⟩ : ∃ C : ByteArray, C = S ++ ⟨#[44]⟩ := ⟨_, rfl⟩
        have hjn : Hid ((S ++ ⟨#[44]⟩ ++ D).data.toList = joinK Z (k + 1)) := Lib.hid (by
          rw [ByteArray.data_append, ByteArray.data_append, Array.toList_append, Array.toList_append, hj.out, hDl.out, joinK_next Z k hkp hlt, ← hz'.out, List.append_assoc])
        have hs2 : (S ++ ⟨#[44]⟩ ++ D).size ≤ 1408 := by have := len_data (S ++ ⟨#[44]⟩ ++ D); rw [hjn.out] at this; omega
        have hs2' := Lib.hid hs2
        clear hs2 hC hk0
        go_wp2_with (go_at_call 45; refine (hcd'.out _).mono ?_; rintro e w1 ⟨rfl, hb1⟩)
        go_roundw
        case rel => exact ⟨k + 1, S ++ ⟨#[44]⟩ ++ D, by omega, by go_num, rfl, hs2'.out, hjn, hbel.trans (hb1.mono hsz)⟩
        case measure => simp [intOf]; omega
    · have hks : k = Z.length := by omega
      have hj2 : Hid (S.data.toList = textZ Z) := Lib.hid (by rw [hr.out, ← hks]; exact hj.out)
      clear hks
      go_wp2
      go_ret
      exact ⟨congrArg Ending.returned (congrArg Value.string (bytes_of S _ hj2.out)), hbel⟩

end Go.Proofs.YtcgmpomhklhmaaaDoor
