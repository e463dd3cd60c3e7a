/-
  Contracts of the program's reader of parts, over the library's SplitN and ParseUint.
-/
import Derived.Test.YtjgpckocmjolmaaGreatDoorReadListI
import Derived.Test.YtjgpckocmjolmaaGreatDoorPartsMath
import Derived.Shelf.Pu.ErrVarParseUint
namespace Go.Proofs.YtjgpckocmjolmaaGreatDoor
open Go.ChangeShapes Go.WideShapes Go.ChangeAt Go.RowKit Go.Sort
set_option linter.unusedVariables false
set_option linter.unusedSimpArgs false
theorem pu_ok (s : ByteArray) (hs : s.size ≤ 1048576) (u : Nat) (h : pu32 s.data.toList = some u) (w : World) :
    Calls Tryz.prog 39 #[.string s, .int .i64 10, .int .i64 32] w fun e w' => e = .returned (.tuple #[.int .u64 u, .nilIface]) ∧ Below w.heap.size w w' :=
  (Tryz.strconv_ParseUint_10_at32_ok s (by omega) u (pu32_ok h) w).mono fun e w' ⟨he, hw⟩ => ⟨he, by
    rcases hw with rfl | rfl
    · exact Below.refl _ _
    · exact Lib.bytesWorld_below _ _ _⟩
theorem pu_bad (s : ByteArray) (hs : s.size ≤ 1048576) (h : pu32 s.data.toList = none) (w : World) (hE : ErrsAt w) :
    Calls Tryz.prog 39 #[.string s, .int .i64 10, .int .i64 32] w fun e w' => ∃ (n : Int) (t : TypeId) (N : Nat), e = .returned (.tuple #[.int .u64 n, .iface t (.pointer (some ⟨N, 0, none⟩))]) ∧ Below w.heap.size w w' := by
  obtain ⟨tp, p, tq, q, h1, h2⟩ := hE
  cases hp : Lib.parseUintB 32 s.data.toList with
  | ok v => exact absurd hp (pu32_no h v)
  | _ =>
    first
    | exact (Any.strconv_ParseUint_10_at32_syntax_var Tryz.laysPu14 s (by omega) hp tp p w h1).mono fun e w' ⟨N, he, _, _, hb⟩ => ⟨_, _, N, he, hb⟩
    | exact (Any.strconv_ParseUint_10_at32_range_var Tryz.laysPu14 s (by omega) hp tq q w h2).mono fun e w' ⟨N, he, _, _, hb⟩ => ⟨_, _, N, he, hb⟩
/-- the library's parts, one more than wanted at most -/
def cutM (c : UInt8) (m : Nat) (s : ByteArray) : List ByteArray := Lib.splitB ⟨#[c]⟩ 0 (min (m + 1) (s.size + 1) - 1) s
theorem cutM_data (c : UInt8) (m : Nat) (s : ByteArray) : (cutM c m s).map (·.data.toList) = Lib.splitK [c] 0 (min (m + 1) (s.size + 1) - 1) s.data.toList := Lib.splitB_data _ _ _ _
theorem cutM_all (c : UInt8) (m : Nat) (s : ByteArray) (h : (splitL c s.data.toList).length ≤ m) : (cutM c m s).map (·.data.toList) = splitL c s.data.toList := by
  have hl := splitL_len c s.data.toList
  rw [len_data] at hl
  rw [cutM_data]
  exact splitK_all c _ _ (by omega)
theorem cutM_long (c : UInt8) (m : Nat) (s : ByteArray) (h : m < (splitL c s.data.toList).length) : (cutM c m s).length = m + 1 := by
  have hl := splitL_len c s.data.toList
  rw [len_data] at hl
  have hk : min (m + 1) (s.size + 1) - 1 = m := by omega
  have e : (cutM c m s).length = ((cutM c m s).map (·.data.toList)).length := by rw [List.length_map]
  rw [e, cutM_data, hk, splitK_long c m _ (by omega)]
theorem cutM_len (c : UInt8) (m : Nat) (s : ByteArray) : ((cutM c m s).length = m ↔ (splitL c s.data.toList).length = m) ∧ (cutM c m s).length ≤ m + 1 := by
  by_cases h : (splitL c s.data.toList).length ≤ m
  · have e : (cutM c m s).length = (splitL c s.data.toList).length := by rw [← cutM_all c m s h, List.length_map]
    rw [e]; exact ⟨Iff.rfl, by omega⟩
  · have e := cutM_long c m s (by omega)
    rw [e]; exact ⟨by omega, Nat.le_refl _⟩
theorem cut_any (c : UInt8) (m : Nat) (z : Int) (hz : z = ((m + 1 : Nat) : Int)) (hm : m ≤ 100) (s : ByteArray) (w : World) (hs : s.size ≤ 1048576) (hSh : w.ShapedOpen Tryz.prog) :
    Calls Tryz.prog 8 #[.string s, .string ⟨#[c]⟩, .int .i64 z] w fun e w' => ∃ cap, e = .returned (.slice (some ⟨w.heap.size, 0, none⟩) (cutM c m s).length cap) ∧ (cutM c m s).length ≤ cap ∧ Below w.heap.size w w' ∧ w.heap.size < w'.heap.size ∧
      ∀ j (hj : j < (cutM c m s).length), w'.cell? ⟨w.heap.size, j, none⟩ = some (.string (cutM c m s)[j]) := by
  subst hz
  refine (Tryz.strings_SplitN_shaped s ⟨#[c]⟩ (m + 1) w hSh (by omega) (by simp [ByteArray.size]) (by omega) (by omega)).mono ?_
  rintro e w' ⟨rfl, rfl⟩
  have hle := Lib.splitB_length_le ⟨#[c]⟩ 0 (min (m + 1) (s.size + 1) - 1) s
  refine ⟨min (m + 1) (s.size + 1), rfl, ?_, (Below.refl _ _).alloc (Nat.le_refl _) _, by simp, ?_⟩
  · unfold cutM; omega
  · intro j hj
    rw [World.cell?_alloc_mark]
    show (Lib.cellsOf (cutM c m s) _)[j]? = _
    unfold Lib.cellsOf
    rw [List.getElem?_toArray, List.getElem?_append_left (by rw [List.length_map]; exact hj), List.getElem?_map, List.getElem?_eq_getElem hj]
    rfl
/-- numbers without a sign, as numbers -/
def upI (Z : List Nat) : List Int := Z.map (Int.ofNat)
theorem upI_len (Z : List Nat) : (upI Z).length = Z.length := by simp [upI]
theorem upI_snoc (Z : List Nat) (n : Nat) : upI (Z ++ [n]) = upI Z ++ [(n : Int)] := by simp [upI]
set_option maxHeartbeats 3200000 in
set_option maxRecDepth 1000000 in
theorem readParts_any (s : ByteArray) (c : UInt8) (m : Nat) (z : Int) (hz : z = (m : Int)) (hm0 : 1 ≤ m) (hm : m ≤ 5) (w : World) (hs : s.size ≤ 1048576) (hE : ErrsAt w) (hSh : w.ShapedOpen Tryz.prog) :
    Calls Tryz.prog 18 #[.string s, .string ⟨#[c]⟩, .int .i64 z] w (LRet ((rpL c m s.data.toList).map upI) w) := by
  subst hz
  obtain ⟨i0, hi, hz0, hz1, hz2⟩ := info_parts infoI
  have hc0 := cut_any c m ((m : Int) + 1) (by omega) (by omega) s w hs hSh
  obtain ⟨hiff, hNle⟩ := cutM_len c m s
  by_cases hlen : (splitL c s.data.toList).length = m
  rotate_left
  · have hr : Hid ((rpL c m s.data.toList).map upI = none) := Lib.hid (by unfold rpL; rw [if_neg hlen]; rfl)
    obtain ⟨M, hM⟩ : ∃ M, M = (cutM c m s).length := ⟨_, rfl⟩
    rw [← hM] at hiff hNle
    have hne : ¬ M = m := fun h => hlen (hiff.1 h)
    have t1 : ((M : Int) == (m : Int)) = false := by rw [beq_eq_false_iff_ne]; omega
    have t2 : (M == m) = false := by rw [beq_eq_false_iff_ne]; omega
    have hc2 : Hid (Calls Tryz.prog 8 #[.string s, .string ⟨#[c]⟩, .int .i64 ((m : Int) + 1)] w fun e w' => ∃ cap, e = .returned (.slice (some ⟨w.heap.size, 0, none⟩) M cap) ∧ M ≤ cap ∧ Below w.heap.size w w') := Lib.hid (hc0.mono fun e w' ⟨cap, he, hc, hb, _⟩ => ⟨cap, by rw [hM]; exact he, by rw [hM]; exact hc, hb⟩)
    clear hM hlen hc0 hiff hne
    go_enter Tryz.func18, Tryz.ntmps18
    go_wp2_with (go_at_call 8; refine hc2.out.mono ?_; rintro e w1 ⟨cap, rfl, hcap, hb1⟩)
    go_ret2
    rw [hr.out]
    exact ⟨rfl, hb1⟩
  obtain ⟨P, hP⟩ : ∃ P, P = splitL c s.data.toList := ⟨_, rfl⟩
  rw [← hP] at hlen
  have hr : Hid (rpL c m s.data.toList = rpAll P) := Lib.hid (by unfold rpL; rw [← hP, if_pos hlen])
  have hall := cutM_all c m s (by rw [← hP]; omega)
  rw [← hP] at hall
  have hNP : (cutM c m s).length = m := hiff.2 (by rw [← hP]; exact hlen)
  have hpl : Hid (∀ p ∈ P, p.length ≤ 1048576) := Lib.hid (fun p hp => by
    have := part_len c _ s.data.toList (Nat.le_refl _) p (by rw [← hP]; exact hp)
    rw [len_data] at this; omega)
  have hc2 : Hid (Calls Tryz.prog 8 #[.string s, .string ⟨#[c]⟩, .int .i64 ((m : Int) + 1)] w fun e w' => ∃ cap, e = .returned (.slice (some ⟨w.heap.size, 0, none⟩) m cap) ∧ m ≤ cap ∧ Below w.heap.size w w' ∧ w.heap.size < w'.heap.size ∧ ∀ j (hj : j < P.length), w'.cell? ⟨w.heap.size, j, none⟩ = some (.string ⟨(P[j]).toArray⟩)) :=
    Lib.hid (hc0.mono fun e w' ⟨cap, he, hc, hb, hg, hcell⟩ => ⟨cap, by rw [← hNP]; exact he, by rw [← hNP]; exact hc, hb, hg, fun j hj => by
      have hj2 : j < (cutM c m s).length := by rw [hNP, ← hlen]; exact hj
      rw [hcell j hj2]
      congr 2
      refine bytes_of _ _ ?_
      have h2 : ((cutM c m s).map (·.data.toList))[j]? = P[j]? := by rw [hall]
      rw [List.getElem?_map, List.getElem?_eq_getElem hj2, List.getElem?_eq_getElem hj] at h2
      exact Option.some.inj h2⟩)
  have hlen' := Lib.hid hlen
  have hPm : P.length ≤ m := by omega
  have hmP : m ≤ P.length := by omega
  clear hP hall hNP hc0 hNle hiff hlen
  go_enter Tryz.func18, Tryz.ntmps18
  go_wp2_with (first
    | (go_at_call 8; refine hc2.out.mono ?_; rintro e w1 ⟨cap, rfl, hcap, hb1, hgl, hcell⟩; have hcell' := Lib.hid hcell; clear hcell)
    | (at_make; refine wpList_make_full _ rfl _ _ 30 rfl w1.heap.size 2 i0 (.int .i64 0) 1 Tryz.underlying30 hi hz0 hz1 .i64 .i64 _ _ m rfl rfl rfl rfl ?b1 ?b2 ?b3 ?_))
  case b1 => rw [hz2]; omega
  case b2 => unfold maxLen; omega
  case b3 => exact Nat.le_refl _
  intro w2 hown hgr
  rw [toList_madeCells_one, ← fillK_nil] at hown
  have hb2 : Below w1.heap.size w1 w2 := (Below.refl _ _).grown hgr (Nat.le_refl _) (fun k hk => by cases hk)
  clear hgr
  go_wp2
  go_loopw [27] (fun i wr => ∃ (k : Nat) (Z : List Nat), k ≤ m ∧ i = .int .i64 k ∧ wr.ownsRow w1.heap.size 2 1 (.slice (some ⟨w1.heap.size, 0, none⟩) m m) m (fillK (upI Z) m) ∧ Below w1.heap.size w1 wr ∧ Hid (Z.length = k) ∧ Hid (rpAll (P.take k) = some Z)) (fun i _ => m - (intOf i).toNat)
  case atStart => exact ⟨0, [], by omega, rfl, hown, hb2, Lib.hid rfl, Lib.hid rfl⟩
  case round =>
    obtain ⟨k, Z, hk, rfl, ho, hbel, hZk, hrp⟩ := hrel
    have hsz := hbel.size
    have hsz1 := hb1.size
    by_cases hlt : k < m
    · have hltP : k < P.length := by omega
      obtain ⟨p, hp⟩ : ∃ p, p = P[k] := ⟨_, rfl⟩
      obtain ⟨S, hS⟩ : ∃ S : ByteArray, S = ⟨p.toArray⟩ := ⟨_, rfl⟩
      have hcx : wr.cell? ⟨w.heap.size, k, none⟩ = some (.string S) := (hbel.cell (p := ⟨w.heap.size, k, none⟩) hgl).trans (by rw [hS, hp]; exact hcell'.out k hltP)
      have hSl : S.data.toList = p := by rw [hS]
      have hSs : S.size ≤ 1048576 := by
        rw [← len_data, hSl]; exact hpl.out p (by rw [hp]; exact List.getElem_mem _)
      have hBw := hb1.trans (hbel.mono hsz1)
      have hpm : Hid (p ∈ P) := Lib.hid (by rw [hp]; exact List.getElem_mem _)
      have hp' := Lib.hid hp
      have hSl' := Lib.hid hSl
      clear hp hS hSl
      cases hv : pu32 p with
      | none =>
        have hbad : Hid ((rpL c m s.data.toList).map upI = none) := Lib.hid (by rw [hr.out, rpAll_bad hpm.out hv]; rfl)
        have hcn := Lib.hid (pu_bad S hSs (by rw [hSl'.out]; exact hv) wr (hE.below hBw))
        clear hv ho
        go_wp2_with (go_at_call 39; refine hcn.out.mono ?_; rintro e w3 ⟨n, t, N, rfl, hb3⟩)
        go_ret2
        rw [hbad.out]
        exact ⟨rfl, hBw.trans (hb3.mono hBw.size)⟩
      | some n =>
        have hcn := Lib.hid (pu_ok S hSs n (by rw [hSl'.out]; exact hv) wr)
        have hn := pu32_le hv
        have hst := Lib.hid (rpAll_take hltP hrp.out (by rw [← hp'.out]; exact hv))
        have hset : Hid ((fillK (upI Z) m).set k (.int .i64 (n : Int)) = fillK (upI (Z ++ [n])) m) := Lib.hid (by
          have := fillK_set (upI Z) m (n : Int) (by rw [upI_len, hZk.out]; exact hlt)
          rw [upI_len, hZk.out] at this; rw [upI_snoc]; exact this)
        have hZ2 : Hid ((Z ++ [n]).length = k + 1) := Lib.hid (by rw [List.length_append, hZk.out]; rfl)
        obtain ⟨old, hold⟩ : ∃ old, (fillK (upI Z) m)[k]? = some old := ⟨_, List.getElem?_eq_getElem (by rw [fillK_len _ _ (by rw [upI_len, hZk.out]; omega)]; exact hlt)⟩
        have hold' := Lib.hid hold
        have ho' := Lib.hid ho
        clear hv hold ho
        go_wp2_with (go_at_call 39; refine hcn.out.mono ?_; rintro e w3 ⟨rfl, hb3⟩; have hc3 := ((own_kept ho'.out hb3).cellAt k (by omega)).trans hold'.out; have hf3 := (own_kept ho'.out hb3).frozenAt k)
        have hst2 := (own_kept ho'.out hb3).stored k (.int .i64 (n : Int))
        rw [hset.out] at hst2
        have hb4 := hbel.trans (hb3.mono hsz)
        go_roundw
        case rel => exact ⟨k + 1, Z ++ [n], by omega, by go_num, hst2.1, hb4.grown hst2.2 hb4.size (fun j hj => by cases hj; exact Nat.le_refl _), hZ2, hst⟩
        case measure => simp [intOf]; omega
    · have hks : k = m := by omega
      have hfin : Hid ((rpL c m s.data.toList).map upI = some (upI Z)) := Lib.hid (by rw [hr.out]; have := hrp.out; rw [hks, ← hlen'.out, List.take_length] at this; rw [this]; rfl)
      have hrow : Hid (wr.ownsRow w1.heap.size 2 1 (.slice (some ⟨w1.heap.size, 0, none⟩) m m) (upI Z).length ((upI Z).map encI)) := Lib.hid (by
        have hzl : (upI Z).length = m := by rw [upI_len, hZk.out, hks]
        have h2 := ho
        have h3 : fillK (upI Z) m = (upI Z).map encI := by
          have := fillK_all (upI Z)
          rw [hzl] at this; exact this
        rw [h3] at h2
        rw [hzl]; exact h2)
      clear hks ho
      go_wp2
      go_ret2
      rw [hfin.out]
      exact ⟨_, rfl, own_lower hrow.out hsz1, hb1.trans (hbel.mono hsz1)⟩
end Go.Proofs.YtjgpckocmjolmaaGreatDoor
