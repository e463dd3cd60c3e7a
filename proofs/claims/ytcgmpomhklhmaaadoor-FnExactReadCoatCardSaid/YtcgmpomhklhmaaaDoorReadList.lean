/-
  Contracts of ReadList: the model's; the law's marks on rows of numbers.
-/
import Derived.Test.YtcgmpomhklhmaaaDoorRead
import Derived.Test.YtcgmpomhklhmaaaDoorIntRow
import Derived.Test.YtcgmpomhklhmaaaDoorCutMath
namespace Go.Proofs.YtcgmpomhklhmaaaDoor
open Go.ChangeShapes Go.WideShapes Go.ChangeAt Go.RowKit
set_option linter.unusedVariables false
set_option linter.unusedSimpArgs false
theorem rl_l00InV (n : Int) (w : World) : Calls Tryd.prog 30 #[.int .i64 n, .int .i64 (-1000000000000), .int .i64 1000000000000] w fun e w' => e = .returned (.bool (inV n)) ∧ w = w' := l00In_any _ _ _ _
/-- a row of numbers and true, or no row and false -/
def LRet (o : Option (List Int)) (w : World) (e : Ending) (w' : World) : Prop :=
  match o with
  | none => e = .returned (.tuple #[.slice none 0 0, .bool false]) ∧ Below w.heap.size w w'
  | some Z => ∃ v, e = .returned (.tuple #[v, .bool true]) ∧ w'.ownsRow w.heap.size 2 1 v Z.length (Z.map encI) ∧ Below w.heap.size w w'
theorem is_dash (s : ByteArray) (h : s.data.toList = [45]) : s = ⟨#[45]⟩ := bytes_of s _ h
theorem no_dash (s : ByteArray) (h : s.data.toList ≠ [45]) : (s.toList == [45]) = false := by
  rw [ByteArray.toList_eq, beq_eq_false_iff_ne]; exact h

set_option maxHeartbeats 3200000 in
set_option maxRecDepth 1000000 in
theorem specReadList_any (s : ByteArray) (w : World) (hs : s.size ≤ 1048576) :
    Calls Tryd.prog 23 #[.string s] w (LRet (readL s.data.toList) w) := by
  obtain ⟨i0, hi, hz0, hz1, hz2⟩ := info_parts infoI
  by_cases hd : s.data.toList = [45]
  · have hs' := is_dash s hd
    subst hs'
    go_enter Tryd.func23, Tryd.ntmps23
    go_wp2
    go_ret2
    exact ⟨_, rfl, rowI_start w, (Below.refl _ _).alloc (Nat.le_refl _) _⟩
  have hnd := no_dash s hd
  obtain ⟨P, hP⟩ : ∃ P, P = splitL 44 s.data.toList := ⟨_, rfl⟩
  have hc0 := l01Split_any s 44 w hs
  have hr0 : Hid (readL s.data.toList = if 64 < P.length then none else readParts P) := Lib.hid (by unfold readL; rw [if_neg hd, hP])
  have hpl : Hid (∀ p ∈ P, p.length ≤ 1048576) := Lib.hid (fun p hp => by
    have := part_len 44 _ s.data.toList (Nat.le_refl _) p (by rw [← hP]; exact hp)
    rw [len_data] at this; omega)
  have hpos : 0 < P.length := by rw [hP]; exact splitL_pos' _ _
  have hPn : P.length ≤ 1048577 := by
    have := splitL_len 44 s.data.toList
    rw [len_data] at this; rw [hP]; omega
  rw [← hP] at hc0
  clear hP hd
  by_cases hlong : 64 < P.length
  · have hr : Hid (readL s.data.toList = none) := Lib.hid (by rw [hr0.out, if_pos hlong])
    go_enter Tryd.func23, Tryd.ntmps23
    go_wp2_with (go_at_call 22; refine hc0.mono ?_; rintro e w1 ⟨v, rfl, hown1, hbel1⟩)
    rcases row_open hown1 with ⟨_, h0⟩ | ⟨g, cap, rfl, hg, hgl, hn, hcap, hfr, hcell⟩
    · rw [h0] at hpos; exact absurd hpos (Nat.lt_irrefl 0)
    have h1 : decide ((64 : Int) < (P.length : Int)) = true := by simp; omega
    clear hcell hown1 hfr hc0
    go_simp
    go_wp2
    go_ret2
    rw [hr.out]
    exact ⟨rfl, hbel1⟩
  have hr : Hid (readL s.data.toList = readParts P) := Lib.hid (by rw [hr0.out, if_neg hlong])
  have h1 : decide ((64 : Int) < (P.length : Int)) = false := by simp; omega
  clear hr0
  go_enter Tryd.func23, Tryd.ntmps23
  go_wp2_with (go_at_call 22; refine hc0.mono ?_; rintro e w1 ⟨v, rfl, hown1, hbel1⟩)
  rcases row_open hown1 with ⟨_, h0⟩ | ⟨g, cap, rfl, hg, hgl, hn, hcap, hfr, hcell⟩
  · rw [h0] at hpos; exact absurd hpos (Nat.lt_irrefl 0)
  have hcell' := Lib.hid hcell
  clear hcell hown1 hfr hc0
  go_simp
  go_wp2
  go_loopw [5, 6] (fun v i wr => ∃ (k : Nat) (Z : List Int), k ≤ P.length ∧ i = .int .i64 k ∧ wr.ownsRow w1.heap.size 2 1 v Z.length (Z.map encI) ∧ Below w1.heap.size w1 wr ∧ Z.length = k ∧ Hid (readParts (P.take k) = some Z)) (fun _ i _ => P.length - (intOf i).toNat)
  case atStart => exact ⟨0, [], by omega, rfl, rowI_start w1, (Below.refl _ _).alloc (Nat.le_refl _) _, rfl, Lib.hid rfl⟩
  case round =>
    obtain ⟨k, Z, hk, rfl, hown, hbel, hZk, hrp⟩ := hrel
    have hsz := hbel.size
    by_cases hlt : k < P.length
    · obtain ⟨p, hp⟩ : ∃ p, p = P[k] := ⟨_, rfl⟩
      have hpg : P.getD k [] = p := by rw [hp]; simp [List.getD, List.getElem?_eq_getElem hlt]
      have hcx0 : wr.cell? ⟨g, k, none⟩ = some (encS (P.getD k [])) := (hbel.cell (by exact hgl)).trans (hcell'.out k hlt)
      rw [hpg] at hcx0
      obtain ⟨S, hS⟩ : ∃ S : ByteArray, S = ⟨p.toArray⟩ := ⟨_, rfl⟩
      unfold encS at hcx0
      rw [← hS] at hcx0
      have hSl : S.data.toList = p := by rw [hS]
      have hSs : S.size ≤ 1048576 := by
        rw [← len_data, hSl]; exact hpl.out p (by rw [hp]; exact List.getElem_mem _)
      have hcn := l01Number_any S wr (by unfold maxLen; omega)
      rw [hSl] at hcn
      have hpm : Hid (p ∈ P) := Lib.hid (by rw [hp]; exact List.getElem_mem _)
      have hp' := Lib.hid hp
      clear hp hpg hS hSl
      cases hv : rv p with
      | none =>
        have hbad : Hid (readL s.data.toList = none) := Lib.hid (by rw [hr.out]; exact readParts_bad hpm.out hv)
        have hb2 := hbel1.trans (hbel.mono hbel1.size)
        have hno := readD_no hv
        clear hown hv
        rcases hno with e | ⟨n, e, hin⟩
        · rw [e] at hcn
          simp only [optV] at hcn
          clear e
          go_wp2_with (go_at_call 39; refine hcn.mono ?_; rintro e w' ⟨rfl, rfl⟩)
          go_ret2
          rw [hbad.out]
          exact ⟨rfl, hb2⟩
        · rw [e] at hcn
          simp only [optV] at hcn
          clear e
          go_wp2_with (first
            | (go_at_call 39; refine hcn.mono ?_; rintro e w' ⟨rfl, rfl⟩)
            | (go_at_call 30; refine (rl_l00InV _ _).mono ?_; rintro e w' ⟨rfl, rfl⟩))
          go_ret2
          rw [hbad.out]
          exact ⟨rfl, hb2⟩
      | some n =>
        obtain ⟨e, hin⟩ := readD_of_rv hv
        have hst := Lib.hid (readParts_take hlt hrp.out (by rw [← hp'.out]; exact hv))
        rw [e] at hcn
        simp only [optV] at hcn
        clear e hv
        go_wp2_with (first
          | (go_at_call 39; refine hcn.mono ?_; rintro e w' ⟨rfl, rfl⟩)
          | (go_at_call 30; refine (rl_l00InV _ _).mono ?_; rintro e w' ⟨rfl, rfl⟩)
          | (at_builtin; refine wpList_append_own _ rfl _ _ 22 rfl w1.heap.size 2 i0 (.int .i64 0) 1 8 Tryd.underlying22 hi hz0 hz1 hz2 rfl (by decide) _ _ _ rfl (hown.alloc _) ⟨_, 0, none⟩ 1 1 [.int .i64 n] rfl rfl ?c1 ?c2 ?c3 ?c4 ?c5 ?_))
        case c1 =>
          intro j u hj
          match j, hj with
          | 0, hj => simp at hj; subst hj; simp [Addr.add]
        case c2 => intro u hu; simp at hu; subst hu; rfl
        case c3 => unfold maxLen; omega
        case c4 => omega
        case c5 => simp; omega
        intro v' w2 hown' hgrow' _
        have hb2 := (hbel.alloc hbel.size (.cells #[.int .i64 n] 2)).grown hgrow' (by simp; omega) (fun j hj => hown.own_ge j hj)
        have hZ2 : (Z ++ [n]).length = k + 1 := by simp; omega
        have hown2 : w2.ownsRow w1.heap.size 2 1 v' (Z ++ [n]).length ((Z ++ [n]).map encI) := by rw [hZ2]; simpa [encI] using hown'
        clear hgrow' hown hown' hcx0
        go_wp2
        go_roundw
        case rel => exact ⟨k + 1, Z ++ [n], by omega, by go_num, hown2, hb2, hZ2, hst⟩
        case measure => simp [intOf]; omega
    · have hks : k = P.length := by omega
      have hfin : Hid (readL s.data.toList = some Z) := Lib.hid (by rw [hr.out]; have := hrp.out; rw [hks, List.take_length] at this; exact this)
      clear hks
      go_wp2
      go_ret2
      rw [hfin.out]
      exact ⟨_, rfl, own_lower hown hbel1.size, hbel1.trans (hbel.mono hbel1.size)⟩
end Go.Proofs.YtcgmpomhklhmaaaDoor
