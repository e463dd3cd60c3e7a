/-
  Contracts of ListText: the program's, over the library's Join.
-/
import Derived.Test.YtcgmpomhklhmaaaDoorList
import Derived.Test.YtcgmpomhklhmaaaDoorTabs
namespace Go.Proofs.YtcgmpomhklhmaaaDoor
open Go.ChangeShapes Go.WideShapes Go.ChangeAt Go.RowKit Go.Sort
set_option linter.unusedVariables false
set_option linter.unusedSimpArgs false
theorem isValueV (n : Int) (w : World) : Calls Tryd.prog 36 #[.int .i64 n] w fun e w' => e = .returned (.bool (inV n)) ∧ w = w' := isValue_any _ _
/-- a new row of texts, k of which are laid -/
def fillS (L : List ByteArray) (k : Nat) : List Value := (L.take k).map Value.string ++ List.replicate (L.length - k) (.string ⟨#[]⟩)
theorem fillS_zero (L : List ByteArray) : fillS L 0 = List.replicate L.length (.string ⟨#[]⟩) := by simp [fillS]
theorem fillS_all (L : List ByteArray) : fillS L L.length = L.map Value.string := by simp [fillS]
theorem fillS_len (L : List ByteArray) (k : Nat) (h : k ≤ L.length) : (fillS L k).length = L.length := by simp [fillS]; omega
theorem fillS_set (L : List ByteArray) (k : Nat) (h : k < L.length) : (fillS L k).set k (.string L[k]) = fillS L (k + 1) := by
  unfold fillS
  have e : List.replicate (L.length - k) (Value.string ⟨#[]⟩) = Value.string ⟨#[]⟩ :: List.replicate (L.length - (k + 1)) (.string ⟨#[]⟩) := by
    rw [show L.length - k = (L.length - (k + 1)) + 1 by omega, List.replicate_succ]
  have hl : ((L.take k).map Value.string).length = k := by simp; omega
  rw [e, List.set_append_right _ _ (by rw [hl]; exact Nat.le_refl _), hl, Nat.sub_self, List.set_cons_zero, List.take_succ_eq_append_getElem h, List.map_append, List.append_assoc]
  rfl
def decs (Z : List Int) : List ByteArray := Z.map fun n => ⟨(Lib.itoa n).toArray⟩
theorem decs_len (Z : List Int) : (decs Z).length = Z.length := by simp [decs]
theorem decs_at (Z : List Int) (k : Nat) (h : k < Z.length) : (decs Z)[k]'(by rw [decs_len]; exact h) = ⟨(Lib.itoa Z[k]).toArray⟩ := by simp [decs]
theorem decs_data (Z : List Int) : (decs Z).map (·.data.toList) = Z.map Lib.itoa := by
  unfold decs; rw [List.map_map]; apply List.map_congr_left; intro n _; rfl

set_option maxHeartbeats 3200000 in
theorem implListText_any (v : Value) (Z : List Int) (w : World) (hn : Z.length ≤ 1048576) (hv : IntsAt w v Z) (hT : TabP w) :
    Calls Tryd.prog 20 #[v] w (StrRet (listR Z) w) := by
  obtain ⟨i0, hi, hz0, hz1, hz2⟩ := info_parts infoS
  obtain ⟨a, cap, rfl, hcap, hzz, hread⟩ := hv
  by_cases hze : Z.length = 0
  · have hZ : Z = [] := List.eq_nil_of_length_eq_zero hze
    subst hZ
    go_enter Tryd.func20, Tryd.ntmps20
    go_wp2
    go_ret
    exact ⟨rfl, Below.refl _ _⟩
  have h0 : ((Z.length : Int) == 0) = false := by rw [beq_eq_false_iff_ne]; omega
  by_cases hlong : Z.length ≤ 64
  rotate_left
  · have hr : Hid (listR Z = []) := Lib.hid (by unfold listR; rw [fits_long hlong]; rfl)
    have h1 : decide ((64 : Int) < (Z.length : Int)) = true := by simp; omega
    clear hread hzz hze
    go_enter Tryd.func20, Tryd.ntmps20
    go_wp2
    go_ret
    exact ⟨by rw [hr.out]; rfl, Below.refl _ _⟩
  have h1 : decide ((64 : Int) < (Z.length : Int)) = false := by simp; omega
  rcases hread with h | ⟨g, o, rfl, hg, hc⟩
  · subst h; exact absurd rfl hze
  have hc' := Lib.hid hc
  have hzz' := Lib.hid hzz
  clear hc hzz
  go_enter Tryd.func20, Tryd.ntmps20
  go_wp2_with (at_make; refine wpList_make_full _ rfl _ _ 44 rfl w.heap.size 9 i0 (.string ⟨#[]⟩) 1 Tryd.underlying44 hi hz0 hz1 .i64 .i64 _ _ Z.length rfl rfl rfl rfl ?b1 ?b2 ?b3 ?_)
  case b1 => rw [hz2]; omega
  case b2 => unfold maxLen; omega
  case b3 => exact Nat.le_refl _
  intro w1 hown hgr
  rw [toList_madeCells_one] at hown
  have hown0 : w1.ownsRow w.heap.size 9 1 (.slice (some ⟨w.heap.size, 0, none⟩) Z.length Z.length) Z.length (fillS (decs Z) 0) := by
    rw [fillS_zero, decs_len]; simpa using hown
  have hb1 : Below w.heap.size w w1 := (Below.refl _ _).grown hgr (Nat.le_refl _) (fun k hk => by cases hk)
  clear hgr hown
  go_wp2
  go_loopw [17] (fun i wr => ∃ k : Nat, k ≤ Z.length ∧ i = .int .i64 k ∧ wr.ownsRow w.heap.size 9 1 (.slice (some ⟨w.heap.size, 0, none⟩) Z.length Z.length) Z.length (fillS (decs Z) k) ∧ Below w.heap.size w wr ∧ Hid ((Z.take k).all inV = true)) (fun i _ => Z.length - (intOf i).toNat)
  case atStart => exact ⟨0, by omega, rfl, hown0, hb1, Lib.hid rfl⟩
  case round =>
    obtain ⟨k, hk, rfl, ho, hbel, hall⟩ := hrel
    have hsz := hbel.size
    by_cases hlt : k < Z.length
    · obtain ⟨z, hz⟩ : ∃ z, z = Z[k] := ⟨_, rfl⟩
      have hcx : wr.cell? ⟨g, o + k, none⟩ = some (.int .i64 z) := (hbel.cell (p := ⟨g, o + k, none⟩) hg).trans (by rw [hz]; exact hc'.out k hlt)
      have hz' := Lib.hid hz
      have hzi : inI z := hzz'.out z (by rw [hz]; exact List.getElem_mem _)
      clear hz
      cases hiv : inV z
      · have hr : Hid (listR Z = []) := Lib.hid (by unfold listR; rw [fits_bad (Z := Z) (n := z) (by rw [hz'.out]; exact List.getElem_mem _) hiv]; rfl)
        clear ho
        go_wp2_with (go_at_call 36; refine (isValueV _ _).mono ?_; rintro e w' ⟨rfl, rfl⟩)
        go_ret
        exact ⟨by rw [hr.out]; rfl, hbel⟩
      · have hs := Lib.hid (allZ_snoc hlt hall.out (by rw [← hz'.out]; exact hiv))
        obtain ⟨D, hD⟩ : ∃ D : ByteArray, D = ⟨(Lib.itoa z).toArray⟩ := ⟨_, rfl⟩
        have hcd2 : ∀ W, TabP W → Calls Tryd.prog 37 #[.int .i64 z] W fun e w' => e = .returned (.string D) ∧ Below W.heap.size W w' := fun W hW => by rw [hD]; exact implDecimal_any z hzi.1 hzi.2 W hW
        have hcd' := Lib.hid hcd2
        have hset : Hid ((fillS (decs Z) k).set k (.string D) = fillS (decs Z) (k + 1)) := Lib.hid (by
          rw [← fillS_set (decs Z) k (by rw [decs_len]; exact hlt), decs_at Z k hlt, ← hz'.out, hD])
        have ho' := Lib.hid ho
        clear hD hcd2 ho hzi
        go_wp2_with (go_at_call 36; refine (isValueV _ _).mono ?_; rintro e w' ⟨rfl, rfl⟩)
        refine (hcd'.out _ (hT.below hbel)).mono ?_
        rintro e w2 ⟨rfl, hb2⟩
        have hst := (own_kept ho'.out hb2).stored k (.string D)
        rw [hset.out] at hst
        have hco : ∃ old, w2.cell? ⟨w.heap.size, k, none⟩ = some old := by
          obtain ⟨old, hold⟩ : ∃ old, (fillS (decs Z) k)[k]? = some old := ⟨_, List.getElem?_eq_getElem (by rw [fillS_len _ _ (by rw [decs_len]; omega), decs_len]; exact hlt)⟩
          exact ⟨old, ((own_kept ho'.out hb2).cellAt k (by omega)).trans hold⟩
        obtain ⟨old, hco⟩ := hco
        have hfo := (own_kept ho'.out hb2).frozenAt k
        have hst' := Lib.hid hst
        have hbn := Lib.hid (hbel.trans (hb2.mono hsz))
        clear hst hb2
        go_wp2
        go_roundw
        case rel => exact ⟨k + 1, by omega, by go_num, hst'.out.1, hbn.out.grown hst'.out.2 hbn.out.size (fun j hj => by cases hj; exact Nat.le_refl _), hs⟩
        case measure => simp [intOf]; omega
    · have hks : k = Z.length := by omega
      have hfit : fitsZ Z = true := by
        rw [fits_all (Z := Z) (by have := hall.out; rw [hks, List.take_length] at this; exact this)]; simp; omega
      have hr : Hid (listR Z = Lib.join ((decs Z).map (·.data.toList)) [44]) := Lib.hid (by
        unfold listR textZ; rw [if_pos hfit, if_neg hze, decs_data])
      have ho2 : wr.ownsRow w.heap.size 9 1 (.slice (some ⟨w.heap.size, 0, none⟩) Z.length Z.length) Z.length ((decs Z).map Value.string) := by
        have h2 := ho; rw [hks, ← decs_len Z, fillS_all] at h2; rw [← decs_len Z]; exact h2
      have hlt2 := (ho2.lt w.heap.size rfl).2
      have hj := Tryd.strings_Join w.heap.size 0 Z.length (decs Z) ⟨#[44]⟩ wr (fun j x hx => by
        have hjl : j < Z.length := by
          have := (List.getElem?_eq_some_iff.1 hx).1; rw [decs_len] at this; exact this
        rw [Nat.zero_add, ho2.cellAt j (by omega), List.getElem?_map, hx]; rfl) hlt2 (by rw [decs_len]; omega) (by rw [decs_len]; omega) (by
        rw [decs_data]
        refine Nat.le_trans (join_le _ (fun x hx => ?_)) ?_
        · obtain ⟨n, hn, rfl⟩ := List.mem_map.1 hx
          exact itoa_len (hzz'.out n hn)
        · rw [List.length_map]; omega)
      rw [decs_len] at hj
      have hj' := Lib.hid hj
      clear hks hfit ho ho2 hj hlt2
      go_wp2_with fail
      refine hj'.out.mono ?_
      rintro e w3 ⟨rfl, hb3⟩
      have hb4 := hbel.trans (hb3.mono hsz)
      clear hb3
      go_wp2
      go_ret
      exact ⟨by rw [hr.out]; rfl, hb4⟩
end Go.Proofs.YtcgmpomhklhmaaaDoor
