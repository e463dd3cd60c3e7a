/-
  Plates out of texts, on both sides.
-/
import Derived.Test.YtgffgaeingaihaaDoorPlrM
import Derived.Test.YtgffgaeingaihaaDoorSplit
namespace Go.Proofs.YtgffgaeingaihaaDoor
open Go.ChangeShapes Go.WideShapes Go.ChangeAt Go.RowKit Go.Deep
set_option linter.unusedVariables false
set_option linter.unusedSimpArgs false
set_option maxRecDepth 1000000
set_option maxHeartbeats 6400000 in
theorem implReadPlate_any (s : ByteArray) (w : World) (hs : s.size ≤ 1048576) (hT : TabP w) (hE : ErrsAt w) (hSh : w.ShapedOpen Tryd.prog) :
    Calls Tryd.prog 7 #[.string s] w (PlRet (plateO s.data.toList) w) := by
  obtain ⟨i0, hi, hz0, hz1, hz2⟩ := info_parts infoG
  have hc0 := splitR_any s w hs hSh
  have hle := cutR_le s
  have hpl := cutR_plate s
  have hpt := cutR_part s
  obtain ⟨P, hP⟩ : ∃ P, P = (cutR s).map (·.data.toList) := ⟨_, rfl⟩
  rw [← hP] at hpl hpt
  have hPl : P.length = (cutR s).length := by rw [hP, List.length_map]
  have hc2 : Hid (Calls Tryd.prog 18 #[.string s, .string ⟨#[47]⟩, .int .i64 11] w fun e w' => ∃ cap, e = .returned (.slice (some ⟨w.heap.size, 0, none⟩) P.length cap) ∧ P.length ≤ cap ∧ Below w.heap.size w w' ∧ w.heap.size < w'.heap.size ∧ ∀ j (hj : j < P.length), w'.cell? ⟨w.heap.size, j, none⟩ = some (.string ⟨(P[j]).toArray⟩)) :=
    Lib.hid (hc0.mono fun e w' ⟨cap, he, hc, hb, hg, hcell⟩ => ⟨cap, by rw [hPl]; exact he, by rw [hPl]; exact hc, hb, hg, fun j hj => by
      have hj2 : j < (cutR s).length := by rw [← hPl]; exact hj
      rw [hcell j hj2]
      congr 2
      refine bytes_of _ _ ?_
      have h2 : ((cutR s).map (·.data.toList))[j]? = P[j]? := by rw [hP]
      rw [List.getElem?_map, List.getElem?_eq_getElem hj2, List.getElem?_eq_getElem hj] at h2
      exact Option.some.inj h2⟩)
  have hP11 : P.length ≤ 11 := by omega
  have hpl' := Lib.hid hpl
  have hpt' := Lib.hid hpt
  clear hP hPl hc0 hle hpl hpt
  go_enter Tryd.func7, Tryd.ntmps7
  go_wp2_with (first
    | (go_at_call 18; refine hc2.out.mono ?_; rintro e w1 ⟨cap, rfl, hcap, hb1, hgl, hcell⟩; have hcell' := Lib.hid hcell; clear hcell)
    | (at_make; refine wpList_make_full _ rfl _ _ 22 rfl w1.heap.size 39 i0 (.slice none 0 0) 1 Tryd.underlying22 hi hz0 hz1 .i64 .i64 _ _ P.length rfl rfl rfl rfl ?b1 ?b2 ?b3 ?_))
  case b1 => rw [hz2]; omega
  case b2 => unfold maxLen; omega
  case b3 => exact Nat.le_refl _
  intro w2 hown hgr
  rw [toList_madeCells_one] at hown
  have hb2 : Below w1.heap.size w1 w2 := (Below.refl _ _).grown hgr (Nat.le_refl _) (fun k hk => by cases hk)
  have hO := OwnG.made hown
  rw [← fillR_nil] at hO
  have hO' := Lib.hid hO
  clear hgr hown hO
  go_wp2
  go_loopw [17] (fun i wr => ∃ (k : Nat) (Y : List (List Int)) (vs : List Value), k ≤ P.length ∧ i = .int .i64 k ∧ Hid (OwnG w1.heap.size wr.heap.size wr (.slice (some ⟨w1.heap.size, 0, none⟩) P.length P.length) (fillR Y P.length) vs) ∧ Hid (Below w1.heap.size w1 wr) ∧ Hid (Y.length = k) ∧ Hid (rowsP (P.take k) = some Y)) (fun i _ => P.length - (intOf i).toNat)
  case atStart => exact ⟨0, [], _, by omega, rfl, hO', Lib.hid hb2, Lib.hid rfl, Lib.hid rfl⟩
  case round =>
    obtain ⟨k, Y, vs, hk, rfl, ho, hbel, hYk, hrp⟩ := hrel
    by_cases hlt : k < P.length
    · obtain ⟨p, hp⟩ : ∃ p, p = P[k] := ⟨_, rfl⟩
      obtain ⟨S, hS⟩ : ∃ S : ByteArray, S = ⟨p.toArray⟩ := ⟨_, rfl⟩
      have hcx : wr.cell? ⟨w.heap.size, k, none⟩ = some (.string S) := (hbel.out.cell (p := ⟨w.heap.size, k, none⟩) hgl).trans (by rw [hS, hp]; exact hcell'.out k hlt)
      have hSl : S.data.toList = p := by rw [hS]
      have hSs : S.size ≤ 1048576 := by
        rw [← len_data, hSl]; have := hpt'.out p (by rw [hp]; exact List.getElem_mem _); omega
      have hBw := hb1.trans (hbel.out.mono hb1.size)
      have hcn := implReadList_any S wr hSs (hT.below hBw) (hE.below hBw) (shape_below hSh hBw)
      rw [hSl] at hcn
      have hpm : Hid (p ∈ P) := Lib.hid (by rw [hp]; exact List.getElem_mem _)
      have hp' := Lib.hid hp
      have hBw' := Lib.hid hBw
      clear hp hS hSl hSs hBw
      cases hv : readL p with
      | none =>
        have hbad : Hid (plateO s.data.toList = none) := Lib.hid (by rw [← hpl'.out]; exact platP_no (rowsP_bad hpm.out hv))
        rw [hv] at hcn
        have hcn' := Lib.hid hcn
        clear hv hcn
        go_wp2_with (go_at_call 19; refine hcn'.out.mono ?_; rintro e w3 ⟨rfl, hb3⟩)
        go_ret2
        exact plRet_no hbad.out (hBw'.out.trans (hb3.mono hBw'.out.size))
      | some Z =>
        have hst := Lib.hid (rowsP_take hlt hrp.out (by rw [← hp'.out]; exact hv))
        have hfl : (fillR Y P.length).length = P.length := fillR_len _ _ (by rw [hYk.out]; omega)
        have hset : (fillR Y P.length).set k Z = fillR (Y ++ [Z]) P.length := by
          have := fillR_set Y P.length Z (by rw [hYk.out]; exact hlt)
          rw [hYk.out] at this; exact this
        have hY2 : Hid ((Y ++ [Z]).length = k + 1) := Lib.hid (by rw [List.length_append, hYk.out]; rfl)
        have hvl : k < vs.length := by rw [ho.out.len, hfl]; exact hlt
        obtain ⟨old, hold⟩ : ∃ old, vs[k]? = some old := ⟨_, List.getElem?_eq_getElem hvl⟩
        have hzin := (readL_in hv).1
        have key : Hid (∀ v2 w2, w2.ownsRow wr.heap.size 2 1 v2 Z.length (Z.map encI) → Below wr.heap.size wr w2 →
            w2.cell? ⟨w1.heap.size, k, none⟩ = some old ∧ w2.frozen? ⟨w1.heap.size, k, none⟩ = false ∧
            Hid (OwnG w1.heap.size (w2.setCell ⟨w1.heap.size, k, none⟩ v2).heap.size (w2.setCell ⟨w1.heap.size, k, none⟩ v2) (.slice (some ⟨w1.heap.size, 0, none⟩) P.length P.length) (fillR (Y ++ [Z]) P.length) (vs.set k v2)) ∧ Hid (Below w1.heap.size w1 (w2.setCell ⟨w1.heap.size, k, none⟩ v2))) := Lib.hid (fun v2 w2 h1 h2 => by
          have ho2 := ho.out.kept h2
          have htp := ho2.top
          rw [hfl] at htp
          have hst := htp.stored k v2
          refine ⟨(ho2.cellAt hfl.symm hlt).trans hold, htp.frozenAt k, Lib.hid ?_, Lib.hid ((hbel.out.trans (h2.mono hbel.out.size)).setCell (p := ⟨w1.heap.size, k, none⟩) (Nat.le_refl _) _)⟩
          rw [← hset]
          exact ho.out.put (by rw [hfl]; exact hlt) h2 h1 hzin hst.2 (by rw [hfl]; exact hst.1) hbel.out.size (by decide))
        rw [hv] at hcn
        have hcn' : Hid (Calls Tryd.prog 19 #[.string S] wr fun e w' => ∃ a2 c2, e = .returned (.tuple #[.slice a2 Z.length c2, .bool true]) ∧ w'.ownsRow wr.heap.size 2 1 (.slice a2 Z.length c2) Z.length (Z.map encI) ∧ Below wr.heap.size wr w') := Lib.hid (hcn.mono fun e w' h => by
          obtain ⟨v, he, hown, hb⟩ := h
          obtain ⟨a2, c2, rfl⟩ := own_shape hown
          exact ⟨a2, c2, he, hown, hb⟩)
        clear hv hcn hset hold hfl hvl hzin
        go_wp2_with (go_at_call 19; refine hcn'.out.mono ?_; rintro e w3 ⟨a2, c2, rfl, o2, b2⟩; obtain ⟨q1, q2, q3, q4⟩ := key.out _ w3 o2 b2; clear o2 b2)
        go_roundw
        case rel => exact ⟨k + 1, Y ++ [Z], _, by omega, by go_num, q3, q4, hY2, hst⟩
        case measure => simp [intOf]; omega
    · have hks : k = P.length := by omega
      have hrow : Hid (rowsP P = some Y) := Lib.hid (by have := hrp.out; rw [hks, List.take_length] at this; exact this)
      have hYl : Y.length = P.length := by rw [hYk.out, hks]
      have ho2 : Hid (OwnG w1.heap.size wr.heap.size wr (.slice (some ⟨w1.heap.size, 0, none⟩) P.length P.length) Y vs) := Lib.hid (by have h2 := ho.out; rw [← hYl, fillR_all] at h2; rw [← hYl]; exact h2)
      have hYt := rowsP_tot hrow.out
      have cV := Lib.hid (implValidPlate_any _ Y wr (by omega) ho2.out.at)
      have hBw := Lib.hid (hb1.trans (hbel.out.mono hb1.size))
      have hs1 := Lib.hid hb1.size
      clear hks ho hYt hYl
      cases hok : okP Y
      · have hbad : Hid (plateO s.data.toList = none) := Lib.hid (by rw [← hpl'.out]; exact platP_bad hrow.out hok)
        rw [hok] at cV
        clear hok
        go_wp2_with (go_at_call 20; refine cV.out.mono ?_; rintro e w3 ⟨rfl, hd3⟩)
        go_ret2
        exact plRet_no hbad.out (below2 hBw.out hd3.below)
      · have hgood : Hid (plateO s.data.toList = some Y) := Lib.hid (by rw [← hpl'.out]; exact platP_yes hrow.out hok)
        rw [hok] at cV
        clear hok
        go_wp2_with (go_at_call 20; refine cV.out.mono ?_; rintro e w3 ⟨rfl, hd3⟩)
        go_ret2
        exact plRet_yes hgood.out ((ho2.out.kept hd3.below).low hs1.out |>.wide (hd3.below.size) (Nat.le_refl _)) (below2 hBw.out hd3.below)
end Go.Proofs.YtgffgaeingaihaaDoor
