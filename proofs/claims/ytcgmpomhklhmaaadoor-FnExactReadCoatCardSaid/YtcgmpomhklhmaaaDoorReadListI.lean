/-
  Contracts of ReadList: the program's, over the library's SplitN.
-/
import Derived.Test.YtcgmpomhklhmaaaDoorReadList
import Derived.Test.YtcgmpomhklhmaaaDoorReadI
import Derived.ChangeAgain
namespace Go.Proofs.YtcgmpomhklhmaaaDoor
open Go.ChangeShapes Go.WideShapes Go.ChangeAt Go.RowKit Go.Sort
set_option linter.unusedVariables false
set_option linter.unusedSimpArgs false
theorem shape_below {w w' : World} (h : w.ShapedOpen Tryd.prog) (hb : Below w.heap.size w w') : w'.ShapedOpen Tryd.prog :=
  h.keptBut (hb.frame (fun _ => False)) (fun p hp => hp.elim)
theorem rl_isValueV (n : Int) (w : World) : Calls Tryd.prog 36 #[.int .i64 n] w fun e w' => e = .returned (.bool (inV n)) ∧ w = w' := isValue_any _ _
/-- the library's parts: how many, and what they are -/
def cutN (s : ByteArray) : List ByteArray := Lib.splitB ⟨#[44]⟩ 0 (min 65 (s.size + 1) - 1) s
theorem cutN_data (s : ByteArray) : (cutN s).map (·.data.toList) = Lib.splitK [44] 0 (min 65 (s.size + 1) - 1) s.data.toList := Lib.splitB_data _ _ _ _
theorem cutN_long (s : ByteArray) (h : 64 < (splitL 44 s.data.toList).length) : 64 < (cutN s).length := by
  have hl := splitL_len 44 s.data.toList
  rw [len_data] at hl
  have hk : min 65 (s.size + 1) - 1 = 64 := by omega
  have e : (cutN s).length = ((cutN s).map (·.data.toList)).length := by rw [List.length_map]
  rw [e, cutN_data, hk, splitK_long 44 64 _ (by omega)]; omega
theorem cutN_all (s : ByteArray) (h : (splitL 44 s.data.toList).length ≤ 64) : (cutN s).map (·.data.toList) = splitL 44 s.data.toList := by
  have hl := splitL_len 44 s.data.toList
  rw [len_data] at hl
  rw [cutN_data]
  exact splitK_all 44 _ _ (by omega)
theorem cutN_le (s : ByteArray) : (cutN s).length ≤ 65 := by
  have := Lib.splitB_length_le ⟨#[44]⟩ 0 (min 65 (s.size + 1) - 1) s
  unfold cutN; omega
theorem splitN_any (s : ByteArray) (w : World) (hs : s.size ≤ 1048576) (hSh : w.ShapedOpen Tryd.prog) :
    Calls Tryd.prog 41 #[.string s, .string ⟨#[44]⟩, .int .i64 65] w fun e w' => ∃ cap, e = .returned (.slice (some ⟨w.heap.size, 0, none⟩) (cutN s).length cap) ∧ (cutN s).length ≤ cap ∧ Below w.heap.size w w' ∧ w.heap.size < w'.heap.size ∧
      ∀ j (hj : j < (cutN s).length), w'.cell? ⟨w.heap.size, j, none⟩ = some (.string (cutN s)[j]) := by
  refine (Tryd.strings_SplitN_shaped s ⟨#[44]⟩ 65 w hSh (by omega) (by decide) (by omega) (by omega)).mono ?_
  rintro e w' ⟨rfl, rfl⟩
  refine ⟨min 65 (s.size + 1), rfl, ?_, (Below.refl _ _).alloc (Nat.le_refl _) _, by simp, ?_⟩
  · have := Lib.splitB_length_le ⟨#[44]⟩ 0 (min 65 (s.size + 1) - 1) s
    unfold cutN; omega
  · intro j hj
    rw [World.cell?_alloc_mark]
    show (Lib.cellsOf (cutN s) _)[j]? = _
    unfold Lib.cellsOf
    rw [List.getElem?_toArray, List.getElem?_append_left (by rw [List.length_map]; exact hj), List.getElem?_map, List.getElem?_eq_getElem hj]
    rfl
/-- a new row of N numbers, the first of which are laid -/
def fillK (Z : List Int) (N : Nat) : List Value := Z.map encI ++ List.replicate (N - Z.length) (.int .i64 0)
theorem fillK_nil (N : Nat) : fillK [] N = List.replicate N (.int .i64 0) := by simp [fillK]
theorem fillK_len (Z : List Int) (N : Nat) (h : Z.length ≤ N) : (fillK Z N).length = N := by simp [fillK]; omega
theorem fillK_set (Z : List Int) (N : Nat) (n : Int) (h : Z.length < N) : (fillK Z N).set Z.length (.int .i64 n) = fillK (Z ++ [n]) N := by
  unfold fillK
  have e : List.replicate (N - Z.length) (Value.int .i64 0) = Value.int .i64 0 :: List.replicate (N - (Z.length + 1)) (.int .i64 0) := by
    rw [show N - Z.length = (N - (Z.length + 1)) + 1 by omega, List.replicate_succ]
  rw [e, List.set_append_right _ _ (by simp), List.length_map, Nat.sub_self, List.set_cons_zero, List.map_append, List.append_assoc, List.length_append]
  rfl
theorem fillK_all (Z : List Int) : fillK Z Z.length = Z.map encI := by simp [fillK]

set_option maxHeartbeats 3200000 in
set_option maxRecDepth 1000000 in
theorem implReadList_any (s : ByteArray) (w : World) (hs : s.size ≤ 1048576) (hT : TabP w) (hE : ErrsAt w) (hSh : w.ShapedOpen Tryd.prog) :
    Calls Tryd.prog 26 #[.string s] w (LRet (readL s.data.toList) w) := by
  obtain ⟨i0, hi, hz0, hz1, hz2⟩ := info_parts infoI
  by_cases hd : s.data.toList = [45]
  · have hs' := is_dash s hd
    subst hs'
    go_enter Tryd.func26, Tryd.ntmps26
    go_wp2
    go_ret2
    exact ⟨_, rfl, rowI_start w, (Below.refl _ _).alloc (Nat.le_refl _) _⟩
  have hnd := no_dash s hd
  have hc0 := splitN_any s w hs hSh
  have hNle := cutN_le s
  by_cases hlong : 64 < (splitL 44 s.data.toList).length
  · have hr : Hid (readL s.data.toList = none) := Lib.hid (by unfold readL; rw [if_neg hd, if_pos hlong])
    have hN := cutN_long s hlong
    obtain ⟨M, hM⟩ : ∃ M, M = (cutN s).length := ⟨_, rfl⟩
    have hM64 : 64 < M := by omega
    have hM65 : M ≤ 65 := by omega
    have h1 : decide ((64 : Int) < (M : Int)) = true := by simp; omega
    have hc2 : Calls Tryd.prog 41 #[.string s, .string ⟨#[44]⟩, .int .i64 65] w fun e w' => ∃ cap, e = .returned (.slice (some ⟨w.heap.size, 0, none⟩) M cap) ∧ M ≤ cap ∧ Below w.heap.size w w' := hc0.mono fun e w' ⟨cap, he, hc, hb, _⟩ => ⟨cap, by rw [hM]; exact he, by rw [hM]; exact hc, hb⟩
    clear hM hN hNle hlong hd hc0
    go_enter Tryd.func26, Tryd.ntmps26
    go_wp2_with (go_at_call 41; refine hc2.mono ?_; rintro e w1 ⟨cap, rfl, hcap, hb1⟩)
    go_ret2
    rw [hr.out]
    exact ⟨rfl, hb1⟩
  obtain ⟨P, hP⟩ : ∃ P, P = splitL 44 s.data.toList := ⟨_, rfl⟩
  rw [← hP] at hlong
  have hr : Hid (readL s.data.toList = readParts P) := Lib.hid (by unfold readL; rw [if_neg hd, ← hP, if_neg hlong])
  have hall := cutN_all s (by rw [← hP]; omega)
  rw [← hP] at hall
  have hNP : (cutN s).length = P.length := by rw [← hall, List.length_map]
  have hpl : Hid (∀ p ∈ P, p.length ≤ 1048576) := Lib.hid (fun p hp => by
    have := part_len 44 _ s.data.toList (Nat.le_refl _) p (by rw [← hP]; exact hp)
    rw [len_data] at this; omega)
  have hc2 : Calls Tryd.prog 41 #[.string s, .string ⟨#[44]⟩, .int .i64 65] w fun e w' => ∃ cap, e = .returned (.slice (some ⟨w.heap.size, 0, none⟩) P.length cap) ∧ P.length ≤ cap ∧ Below w.heap.size w w' ∧ w.heap.size < w'.heap.size ∧ ∀ j (hj : j < P.length), w'.cell? ⟨w.heap.size, j, none⟩ = some (.string ⟨(P[j]).toArray⟩) :=
    hc0.mono fun e w' ⟨cap, he, hc, hb, hg, hcell⟩ => ⟨cap, by rw [← hNP]; exact he, by rw [← hNP]; exact hc, hb, hg, fun j hj => by
      have hj2 : j < (cutN s).length := by rw [hNP]; exact hj
      rw [hcell j hj2]
      congr 2
      refine bytes_of _ _ ?_
      have h2 : ((cutN s).map (·.data.toList))[j]? = P[j]? := by rw [hall]
      rw [List.getElem?_map, List.getElem?_eq_getElem hj2, List.getElem?_eq_getElem hj] at h2
      exact Option.some.inj h2⟩
  have h1 : decide ((64 : Int) < (P.length : Int)) = false := by simp; omega
  have hP64 : P.length ≤ 64 := by omega
  have hc2' := Lib.hid hc2
  clear hP hd hall hNP hc0 hNle hlong hc2
  go_enter Tryd.func26, Tryd.ntmps26
  go_wp2_with (first
    | (go_at_call 41; refine hc2'.out.mono ?_; rintro e w1 ⟨cap, rfl, hcap, hb1, hgl, hcell⟩; have hcell' := Lib.hid hcell; clear hcell)
    | (at_make; refine wpList_make_full _ rfl _ _ 22 rfl w1.heap.size 2 i0 (.int .i64 0) 1 Tryd.underlying22 hi hz0 hz1 .i64 .i64 _ _ P.length rfl rfl rfl rfl ?b1 ?b2 ?b3 ?_))
  case b1 => rw [hz2]; omega
  case b2 => unfold maxLen; omega
  case b3 => exact Nat.le_refl _
  intro w2 hown hgr
  rw [toList_madeCells_one, ← fillK_nil] at hown
  have hb2 : Below w1.heap.size w1 w2 := (Below.refl _ _).grown hgr (Nat.le_refl _) (fun k hk => by cases hk)
  clear hgr
  go_wp2
  go_loopw [23] (fun i wr => ∃ (k : Nat) (Z : List Int), k ≤ P.length ∧ i = .int .i64 k ∧ wr.ownsRow w1.heap.size 2 1 (.slice (some ⟨w1.heap.size, 0, none⟩) P.length P.length) P.length (fillK Z P.length) ∧ Below w1.heap.size w1 wr ∧ Hid (Z.length = k) ∧ Hid (readParts (P.take k) = some Z)) (fun i _ => P.length - (intOf i).toNat)
  case atStart => exact ⟨0, [], by omega, rfl, hown, hb2, Lib.hid rfl, Lib.hid rfl⟩
  case round =>
    obtain ⟨k, Z, hk, rfl, ho, hbel, hZk, hrp⟩ := hrel
    have hsz := hbel.size
    have hsz1 := hb1.size
    by_cases hlt : k < P.length
    · obtain ⟨p, hp⟩ : ∃ p, p = P[k] := ⟨_, rfl⟩
      obtain ⟨S, hS⟩ : ∃ S : ByteArray, S = ⟨p.toArray⟩ := ⟨_, rfl⟩
      have hcx : wr.cell? ⟨w.heap.size, k, none⟩ = some (.string S) := (hbel.cell (p := ⟨w.heap.size, k, none⟩) hgl).trans (by rw [hS, hp]; exact hcell'.out k hlt)
      have hSl : S.data.toList = p := by rw [hS]
      have hSs : S.size ≤ 1048576 := by
        rw [← len_data, hSl]; exact hpl.out p (by rw [hp]; exact List.getElem_mem _)
      have hBw := hb1.trans (hbel.mono hsz1)
      have hcn := implReadDecimal_any S wr hSs (hT.below hBw) (hE.below hBw)
      rw [hSl] at hcn
      have hpm : Hid (p ∈ P) := Lib.hid (by rw [hp]; exact List.getElem_mem _)
      have hp' := Lib.hid hp
      clear hp hS hSl hSs
      cases hv : rv p with
      | none =>
        have hbad : Hid (readL s.data.toList = none) := Lib.hid (by rw [hr.out]; exact readParts_bad hpm.out hv)
        have hno := readD_no hv
        clear ho hv
        rcases hno with e | ⟨n, e, hin⟩
        · rw [e] at hcn
          simp only [optV] at hcn
          clear e
          go_wp2_with (go_at_call 42; refine hcn.mono ?_; rintro e w3 ⟨rfl, hb3⟩)
          go_ret2
          rw [hbad.out]
          exact ⟨rfl, hBw.trans (hb3.mono hBw.size)⟩
        · rw [e] at hcn
          simp only [optV] at hcn
          clear e
          go_wp2_with (first
            | (go_at_call 42; refine hcn.mono ?_; rintro e w3 ⟨rfl, hb3⟩)
            | (go_at_call 36; refine (rl_isValueV _ _).mono ?_; rintro e w' ⟨rfl, rfl⟩))
          go_ret2
          rw [hbad.out]
          exact ⟨rfl, hBw.trans (hb3.mono hBw.size)⟩
      | some n =>
        obtain ⟨e, hin⟩ := readD_of_rv hv
        have hst := Lib.hid (readParts_take hlt hrp.out (by rw [← hp'.out]; exact hv))
        have hset : Hid ((fillK Z P.length).set k (.int .i64 n) = fillK (Z ++ [n]) P.length) := Lib.hid (by
          have := fillK_set Z P.length n (by rw [hZk.out]; exact hlt)
          rw [hZk.out] at this; exact this)
        have hZ2 : Hid ((Z ++ [n]).length = k + 1) := Lib.hid (by rw [List.length_append, hZk.out]; rfl)
        obtain ⟨old, hold⟩ : ∃ old, (fillK Z P.length)[k]? = some old := ⟨_, List.getElem?_eq_getElem (by rw [fillK_len _ _ (by rw [hZk.out]; omega)]; exact hlt)⟩
        have hold' := Lib.hid hold
        have ho' := Lib.hid ho
        rw [e] at hcn
        simp only [optV] at hcn
        clear e hv hold ho
        go_wp2_with (first
          | (go_at_call 42; refine hcn.mono ?_; rintro e w3 ⟨rfl, hb3⟩; have hc3 := ((own_kept ho'.out hb3).cellAt k (by omega)).trans hold'.out; have hf3 := (own_kept ho'.out hb3).frozenAt k)
          | (go_at_call 36; refine (rl_isValueV _ _).mono ?_; rintro e w' ⟨rfl, rfl⟩))
        have hst2 := (own_kept ho'.out hb3).stored k (.int .i64 n)
        rw [hset.out] at hst2
        have hb4 := hbel.trans (hb3.mono hsz)
        go_roundw
        case rel => exact ⟨k + 1, Z ++ [n], by omega, by go_num, hst2.1, hb4.grown hst2.2 hb4.size (fun j hj => by cases hj; exact Nat.le_refl _), hZ2, hst⟩
        case measure => simp [intOf]; omega
    · have hks : k = P.length := by omega
      have hfin : Hid (readL s.data.toList = some Z) := Lib.hid (by rw [hr.out]; have := hrp.out; rw [hks, List.take_length] at this; exact this)
      have hrow : Hid (wr.ownsRow w1.heap.size 2 1 (.slice (some ⟨w1.heap.size, 0, none⟩) P.length P.length) Z.length (Z.map encI)) := Lib.hid (by
        have hzl : Z.length = P.length := by rw [hZk.out, hks]
        have h2 := ho
        rw [← hzl] at h2 ⊢
        rw [fillK_all] at h2; exact h2)
      clear hks ho
      go_wp2
      go_ret2
      rw [hfin.out]
      exact ⟨_, rfl, own_lower hrow.out hsz1, hb1.trans (hbel.mono hsz1)⟩
end Go.Proofs.YtcgmpomhklhmaaaDoor
