/-
  Plates as texts: the program's and the model's contracts.
-/
import Derived.Test.YtcgpllljimknaaaDoorPlt
import Derived.Test.YtcgpllljimknaaaDoorListI
namespace Go.Proofs.YtcgpllljimknaaaDoor
open Go.ChangeShapes Go.WideShapes Go.ChangeAt Go.RowKit Go.Deep
set_option linter.unusedVariables false
set_option linter.unusedSimpArgs false
set_option maxRecDepth 1000000
/-- the text of the first k rows -/
def joinP (G : List (List Int)) (k : Nat) : List UInt8 := Lib.join ((G.take k).map textZ) [47]
theorem joinP_zero (G : List (List Int)) : joinP G 0 = [] := rfl
theorem joinP_all (G : List (List Int)) : joinP G G.length = Lib.join (G.map textZ) [47] := by unfold joinP; rw [List.take_length]
theorem joinP_first (G : List (List Int)) (h : 0 < G.length) : joinP G 1 = textZ G[0] := by
  unfold joinP
  rw [List.take_succ_eq_append_getElem h]
  simp [Lib.join_one]
theorem joinP_next (G : List (List Int)) (k : Nat) (h0 : 0 < k) (h : k < G.length) : joinP G (k + 1) = joinP G k ++ ([47] ++ textZ G[k]) := by
  unfold joinP
  rw [List.take_succ_eq_append_getElem h, List.map_append]
  cases hz : (G.take k).map textZ with
  | nil =>
    have : ((G.take k).map textZ).length = 0 := by rw [hz]; rfl
    rw [List.length_map, List.length_take] at this
    omega
  | cons x r =>
    rw [List.map_singleton, List.cons_append, Lib.join_cons, Lib.join_cons, joinTail_snoc, List.append_assoc]
/-- a row of a valid plate as it is written -/
structure RowT (Z : List Int) : Prop where
  len : Z.length ≤ 10
  fit : fitsZ Z = true
  txt : (textZ Z).length ≤ 220
theorem okP_rowT {G : List (List Int)} (h : okP G = true) {i : Nat} (hi : i < G.length) : RowT G[i] := by
  have hr := okG_rows (okP_okG h)
  have hl := hr.2.2.2.2 _ (List.getElem_mem hi)
  have key : ∀ n ∈ G[i], 1 ≤ n ∧ n ≤ 200 := by
    intro n hn
    obtain ⟨k, hk, rfl⟩ := List.mem_iff_getElem.1 hn
    have := okP_bd h i k hi (by omega)
    rwa [hG_get hi hk] at this
  refine ⟨by omega, ?_, ?_⟩
  · rw [fits_all (List.all_eq_true.2 fun n hn => by unfold inV; exact inB_iff.2 (by have := key n hn; omega))]
    exact decide_eq_true (by omega)
  · unfold textZ
    rw [if_neg (by omega)]
    have := joinK_le G[i] G[i].length (fun n hn => by have := key n hn; omega)
    rw [joinK_all] at this
    omega
theorem joinP_le {G : List (List Int)} (h : okP G = true) : ∀ k, k ≤ G.length → (joinP G k).length ≤ 221 * k
  | 0, _ => by rw [joinP_zero]; simp
  | k + 1, hk => by
    have h1 := joinP_le h k (by omega)
    have h2 := (okP_rowT h (show k < G.length by omega)).txt
    rcases Nat.eq_zero_or_pos k with h0 | h0
    · subst h0; rw [joinP_first G (by omega)]; omega
    · rw [joinP_next G k h0 (by omega), List.length_append, List.length_append]
      simp only [List.length_cons, List.length_nil]; omega
/-- the text of a plate -/
def pltR (G : List (List Int)) : List UInt8 := if okP G then joinP G G.length else []
set_option maxHeartbeats 3200000 in
theorem l08Text_any (v : Value) (G : List (List Int)) (w : World) (hok : okP G = true) (hv : GridAt w v G) : Calls Tryd.prog 24 #[v] w (StrRet (joinP G G.length) w) := by
  have hrow := Lib.hid (fun i (hi : i < G.length) => okP_rowT hok hi)
  have hle := Lib.hid (fun k hk => joinP_le hok k hk)
  have hR := (okG_rows (okP_okG hok)).1
  have hR2 := (okG_rows (okP_okG hok)).2.1
  obtain ⟨a, cap, rfl, hcap, hread⟩ := hv
  rcases hread with h | ⟨g, o, rfl, hg, hc⟩
  · subst h; simp at hR
  have hc' := Lib.hid hc
  clear hok hc
  go_enter Tryd.func24, Tryd.ntmps24
  go_wp2
  go_loopw [3, 4] (fun s i wr => ∃ (k : Nat) (S : ByteArray), k ≤ G.length ∧ i = .int .i64 k ∧ s = .string S ∧ S.size ≤ 2210 ∧ Hid (S.data.toList = joinP G k) ∧ Below w.heap.size w wr) (fun _ i _ => G.length - (intOf i).toNat)
  case atStart => exact ⟨0, ⟨#[]⟩, by omega, rfl, rfl, by decide, Lib.hid rfl, Below.refl _ _⟩
  case round =>
    obtain ⟨k, S, hk, rfl, rfl, hS, hj, hbel⟩ := hrel
    have hsz := hbel.size
    by_cases hlt : k < G.length
    · obtain ⟨u, hu, hz⟩ := hc'.out k hlt
      have hT := hrow.out k hlt
      have hcx : wr.cell? ⟨g, o + k, none⟩ = some u := (hbel.cell (p := ⟨g, o + k, none⟩) hg).trans hu
      have hlen2 := hle.out (k + 1) (by omega)
      obtain ⟨Z, hZ⟩ : ∃ Z, Z = G[k] := ⟨_, rfl⟩
      rw [← hZ] at hz hT
      obtain ⟨D, hD⟩ : ∃ D : ByteArray, D = ⟨(textZ Z).toArray⟩ := ⟨_, rfl⟩
      have hDs : D.size ≤ 220 := by rw [hD]; show (textZ Z).toArray.size ≤ 220; rw [List.size_toArray]; exact hT.txt
      have hcd2 : Calls Tryd.prog 40 #[u] wr fun e w' => e = .returned (.string D) ∧ Below wr.heap.size wr w' := by rw [hD]; exact l01List_any u Z wr (by have := hT.len; omega) (hz.below hbel)
      have hcd' := Lib.hid hcd2
      have hDl : Hid (D.data.toList = textZ G[k]) := Lib.hid (by rw [hD, hZ])
      have hkI : (k : Int) < (G.length : Int) := by omega
      clear hZ hD hcd2 hz hT hu
      by_cases hk0 : k = 0
      · subst hk0
        have hlen3 : (joinP G 1).length ≤ 221 := hle.out 1 (by omega)
        rw [Nat.add_zero] at hcx
        rw [show ((0 : Nat) : Int) = 0 from rfl]
        have hjn : Hid ((S ++ D).data.toList = joinP G 1) := Lib.hid (by
          rw [ByteArray.data_append, Array.toList_append, hj.out, joinP_zero, List.nil_append, hDl.out, joinP_first G hlt])
        have hs2 : (S ++ D).size ≤ 2210 := by have := len_data (S ++ D); rw [hjn.out] at this; omega
        have hs2' := Lib.hid hs2
        clear hs2
        go_wp2_with (go_at_call 40; refine hcd'.out.mono ?_; rintro e w1 ⟨rfl, hb1⟩)
        go_roundw
        case rel => exact ⟨1, S ++ D, by omega, by go_num, rfl, hs2'.out, hjn, hbel.trans (hb1.mono hsz)⟩
        case measure => simp [intOf]; omega
      · have hkp : 0 < k := by omega
        have hjn : Hid ((S ++ ⟨#[47]⟩ ++ D).data.toList = joinP G (k + 1)) := Lib.hid (by
          rw [ByteArray.data_append, ByteArray.data_append, Array.toList_append, Array.toList_append, hj.out, hDl.out, joinP_next G k hkp hlt, List.append_assoc])
        have hs2 : (S ++ ⟨#[47]⟩ ++ D).size ≤ 2210 := by have := len_data (S ++ ⟨#[47]⟩ ++ D); rw [hjn.out] at this; omega
        have hs2' := Lib.hid hs2
        clear hs2 hk0
        go_wp2_with (go_at_call 40; refine hcd'.out.mono ?_; rintro e w1 ⟨rfl, hb1⟩)
        go_roundw
        case rel => exact ⟨k + 1, S ++ ⟨#[47]⟩ ++ D, by omega, by go_num, rfl, hs2'.out, hjn, hbel.trans (hb1.mono hsz)⟩
        case measure => simp [intOf]; omega
    · have hks : k = G.length := by omega
      have hj2 : Hid (S.data.toList = joinP G G.length) := Lib.hid (by rw [← hks]; exact hj.out)
      clear hks
      go_wp2
      go_ret
      exact ⟨congrArg Ending.returned (congrArg Value.string (bytes_of S _ hj2.out)), hbel⟩
theorem specPlateText_any (v : Value) (G : List (List Int)) (w : World) (hn : G.length + totL G ≤ 1048576) (hv : GridAt w v G) : Calls Tryd.prog 8 #[v] w (StrRet (pltR G) w) := by
  have cV := Lib.hid (l08Ok_any v G w hn hv)
  have hx : Hid (pltR G = if okP G then joinP G G.length else []) := Lib.hid rfl
  cases hok : okP G <;> rw [hok] at cV hx
  · obtain ⟨a, cap, rfl, _⟩ := hv
    go_enter Tryd.func8, Tryd.ntmps8
    go_wp2_with (go_at_call 23; refine cV.out.mono ?_; rintro e w2 ⟨rfl, hd⟩)
    go_ret
    exact ⟨by rw [hx.out]; rfl, hd.below⟩
  · have cT := Lib.hid (fun W (hd : DrewOf w W) => l08Text_any v G W hok (hv.below hd.below))
    obtain ⟨a, cap, rfl, _⟩ := hv
    go_enter Tryd.func8, Tryd.ntmps8
    go_wp2_with (first
      | (go_at_call 23; refine cV.out.mono ?_; rintro e w2 ⟨rfl, hd⟩)
      | (go_at_call 24; refine (cT.out _ hd).mono ?_; rintro e w3 ⟨rfl, hb⟩))
    go_ret
    exact ⟨by rw [hx.out]; rfl, below2 hd.below hb⟩
def txts (G : List (List Int)) : List ByteArray := G.map fun Z => ⟨(textZ Z).toArray⟩
theorem txts_len (G : List (List Int)) : (txts G).length = G.length := by simp [txts]
theorem txts_at (G : List (List Int)) (k : Nat) (h : k < G.length) : (txts G)[k]'(by rw [txts_len]; exact h) = ⟨(textZ G[k]).toArray⟩ := by simp [txts]
theorem txts_data (G : List (List Int)) : (txts G).map (·.data.toList) = G.map textZ := by
  unfold txts; rw [List.map_map]; apply List.map_congr_left; intro n _; rfl
set_option maxHeartbeats 3200000 in
theorem implPlateText_any (v : Value) (G : List (List Int)) (w : World) (hn : G.length + totL G ≤ 1048576) (hv : GridAt w v G) (hT : TabP w) : Calls Tryd.prog 10 #[v] w (StrRet (pltR G) w) := by
  obtain ⟨i0, hi, hz0, hz1, hz2⟩ := info_parts infoS
  have cV := Lib.hid (implValidPlate_any v G w hn hv)
  have hx : Hid (pltR G = if okP G then joinP G G.length else []) := Lib.hid rfl
  cases hok : okP G <;> rw [hok] at cV hx
  · obtain ⟨a, cap, rfl, _⟩ := hv
    go_enter Tryd.func10, Tryd.ntmps10
    go_wp2_with (go_at_call 26; refine cV.out.mono ?_; rintro e w2 ⟨rfl, hd⟩)
    go_ret
    exact ⟨by rw [hx.out]; rfl, hd.below⟩
  have hrow := Lib.hid (fun i (hi : i < G.length) => okP_rowT hok hi)
  have hle := Lib.hid (joinP_le hok G.length (Nat.le_refl _))
  have hR := (okG_rows (okP_okG hok)).1
  have hR2 := (okG_rows (okP_okG hok)).2.1
  obtain ⟨a, cap, rfl, hcap, hread⟩ := hv
  rcases hread with h | ⟨g, o, rfl, hg, hc⟩
  · subst h; simp at hR
  have hc' := Lib.hid hc
  have hT' := Lib.hid hT
  clear hok hc hT
  go_enter Tryd.func10, Tryd.ntmps10
  go_wp2_with (first
      | (go_at_call 26; refine cV.out.mono ?_; rintro e w1 ⟨rfl, hd1⟩)
      | (at_make; refine wpList_make_full _ rfl _ _ 43 rfl w1.heap.size 9 i0 (.string ⟨#[]⟩) 1 Tryd.underlying43 hi hz0 hz1 .i64 .i64 _ _ G.length rfl rfl rfl rfl ?b1 ?b2 ?b3 ?_))
  case b1 => rw [hz2]; omega
  case b2 => unfold maxLen; omega
  case b3 => exact Nat.le_refl _
  intro w2 hown hgr
  rw [toList_madeCells_one] at hown
  have hBz : w.heap.size ≤ w1.heap.size := hd1.below.size
  have hb1 : Below w.heap.size w w2 := hd1.below.grown hgr hBz (fun k hk => by cases hk)
  clear hgr hd1 cV
  generalize w1.heap.size = B at hown hBz ⊢
  have hown0 : w2.ownsRow B 9 1 (.slice (some ⟨B, 0, none⟩) G.length G.length) G.length (fillS (txts G) 0) := by
    rw [fillS_zero, txts_len]; simpa using hown
  clear hown
  go_wp2
  go_loopw [14] (fun i wr => ∃ k : Nat, k ≤ G.length ∧ i = .int .i64 k ∧ wr.ownsRow B 9 1 (.slice (some ⟨B, 0, none⟩) G.length G.length) G.length (fillS (txts G) k) ∧ Below w.heap.size w wr) (fun i _ => G.length - (intOf i).toNat)
  case atStart => exact ⟨0, by omega, rfl, hown0, hb1⟩
  case round =>
    obtain ⟨k, hk, rfl, ho, hbel⟩ := hrel
    have hsz := hbel.size
    by_cases hlt : k < G.length
    · obtain ⟨u, hu, hz⟩ := hc'.out k hlt
      have hTr := hrow.out k hlt
      have hcx : wr.cell? ⟨g, o + k, none⟩ = some u := (hbel.cell (p := ⟨g, o + k, none⟩) hg).trans hu
      obtain ⟨Z, hZ⟩ : ∃ Z, Z = G[k] := ⟨_, rfl⟩
      rw [← hZ] at hz hTr
      obtain ⟨D, hD⟩ : ∃ D : ByteArray, D = ⟨(textZ Z).toArray⟩ := ⟨_, rfl⟩
      have hcd2 : Calls Tryd.prog 27 #[u] wr fun e w' => e = .returned (.string D) ∧ Below wr.heap.size wr w' := by
        have := implListText_any u Z wr (by have := hTr.len; omega) (hz.below hbel) (hT'.out.below hbel)
        unfold listR at this
        rw [hTr.fit] at this
        rw [hD]; exact this
      have hcd' := Lib.hid hcd2
      have hset : Hid ((fillS (txts G) k).set k (.string D) = fillS (txts G) (k + 1)) := Lib.hid (by
        rw [← fillS_set (txts G) k (by rw [txts_len]; exact hlt), txts_at G k hlt, ← hZ, hD])
      have ho' := Lib.hid ho
      have hkI : (k : Int) < (G.length : Int) := by omega
      clear hZ hD hcd2 hz hTr hu ho
      go_wp2_with fail
      refine hcd'.out.mono ?_
      rintro e w3 ⟨rfl, hb2⟩
      have hst := (own_kept ho'.out hb2).stored k (.string D)
      rw [hset.out] at hst
      have hco : ∃ old, w3.cell? ⟨B, k, none⟩ = some old := by
        obtain ⟨old, hold⟩ : ∃ old, (fillS (txts G) k)[k]? = some old := ⟨_, List.getElem?_eq_getElem (by rw [fillS_len _ _ (by rw [txts_len]; omega), txts_len]; exact hlt)⟩
        exact ⟨old, ((own_kept ho'.out hb2).cellAt k (by omega)).trans hold⟩
      obtain ⟨old, hco⟩ := hco
      have hfo := (own_kept ho'.out hb2).frozenAt k
      have hst' := Lib.hid hst
      have hbn := Lib.hid (hbel.trans (hb2.mono hsz))
      clear hst hb2
      go_wp2
      go_roundw
      case rel => exact ⟨k + 1, by omega, by go_num, hst'.out.1, hbn.out.grown hst'.out.2 hbn.out.size (fun j hj => by cases hj; exact hBz)⟩
      case measure => simp [intOf]; omega
    · have hks : k = G.length := by omega
      have hr : Hid (pltR G = Lib.join ((txts G).map (·.data.toList)) [47]) := Lib.hid (by rw [hx.out, txts_data, ← joinP_all]; first | rfl | exact if_pos trivial)
      have ho2 : wr.ownsRow B 9 1 (.slice (some ⟨B, 0, none⟩) G.length G.length) G.length ((txts G).map Value.string) := by
        have h2 := ho; rw [hks, ← txts_len G, fillS_all] at h2; rw [← txts_len G]; exact h2
      have hlt2 := (ho2.lt B rfl).2
      have hj := Tryd.strings_Join B 0 G.length (txts G) ⟨#[47]⟩ wr (fun j x hx => by
        have hjl : j < G.length := by
          have := (List.getElem?_eq_some_iff.1 hx).1; rw [txts_len] at this; exact this
        rw [Nat.zero_add, ho2.cellAt j (by omega), List.getElem?_map, hx]; rfl) hlt2 (by rw [txts_len]; omega) (by rw [txts_len]; omega) (by
        rw [txts_data]
        have := hle.out
        rw [joinP_all] at this
        show (Lib.join (G.map textZ) [47]).length ≤ _
        omega)
      rw [txts_len] at hj
      have hj' := Lib.hid hj
      clear hks ho ho2 hj hlt2
      go_wp2_with fail
      refine hj'.out.mono ?_
      rintro e w3 ⟨rfl, hb3⟩
      have hb4 := hbel.trans (hb3.mono hsz)
      clear hb3
      go_wp2
      go_ret
      exact ⟨by rw [hr.out]; rfl, hb4⟩
end Go.Proofs.YtcgpllljimknaaaDoor
