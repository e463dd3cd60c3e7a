/-
  Plates: the stiffness of all rows, on both sides.
-/
import Derived.Test.YtndnliaahdmbmaaStf
import Derived.Test.YtndnliaahdmbmaaRowC
import Derived.OwnWalk
namespace Go.Proofs.Ytndnliaahdmbmaa
open Go.ChangeShapes Go.WideShapes Go.ChangeAt Go.RowKit Go.Deep
set_option linter.unusedVariables false
set_option linter.unusedSimpArgs false
set_option maxRecDepth 1000000
def rsV (G : List (List Int)) : List Int := if okP G then G.map stfV else []
theorem rsV_in {G : List (List Int)} : (∀ n ∈ rsV G, inI n) ∧ (rsV G).length ≤ 10 := by
  unfold rsV
  split
  · rename_i h
    refine ⟨fun n hn => ?_, by rw [List.length_map]; exact (okG_rows (okP_okG h)).2.1⟩
    obtain ⟨Z, hZ, rfl⟩ := List.mem_map.1 hn
    obtain ⟨i, hi, rfl⟩ := List.mem_iff_getElem.1 hZ
    have := stfV_bd (okP_row h hi)
    unfold inI; omega
  · exact ⟨fun n hn => (by cases hn), by simp⟩
set_option maxHeartbeats 3200000 in
theorem implRowStiff_any (v : Value) (G : List (List Int)) (w : World) (hn : G.length + totL G ≤ 1048576) (hv : GridAt w v G) : Calls Try.prog 23 #[v] w (RowC (rsV G) (code (okP G) 1) w) := by
  have cV := Lib.hid (implValidPlate_any v G w hn hv)
  obtain ⟨i0, hi, hz0, hz1, hz2⟩ := info_parts infoI
  have hx1 : Hid (rsV G = if okP G then G.map stfV else []) := Lib.hid rfl
  cases hok : okP G
  · rw [hok] at cV hx1
    obtain ⟨a, cap, rfl, _⟩ := hv
    clear hok hn
    go_enter Try.func23, Try.ntmps23
    go_wp2_with (go_at_call 18; refine cV.out.mono ?_; rintro e w2 ⟨rfl, hd⟩)
    go_ret2
    exact rowC_nil hx1.out rfl hd.below
  have hrow := Lib.hid (fun i (hi : i < G.length) => okP_row hok hi)
  have hR := (okG_rows (okP_okG hok)).1
  have hR2 := (okG_rows (okP_okG hok)).2.1
  rw [hok] at cV hx1
  obtain ⟨a, cap, rfl, hcap, hread⟩ := hv
  rcases hread with h | ⟨g, o, rfl, hg, hc⟩
  · subst h; simp at hR
  have hc' := Lib.hid hc
  obtain ⟨L, hL⟩ : ∃ L, L = G.map stfV := ⟨_, rfl⟩
  have hLl : L.length = G.length := by rw [hL, List.length_map]
  have hLg : Hid (∀ k (h : k < L.length), L[k] = stfV (G[k]'(by omega))) := Lib.hid (fun k h => by subst hL; simp)
  have hV : Hid (rsV G = L) := Lib.hid (by rw [hL]; exact hx1.out)
  clear hok hn hc hx1 hL
  go_enter Try.func23, Try.ntmps23
  go_wp2_with (first
      | (go_at_call 18; refine cV.out.mono ?_; rintro e w1 ⟨rfl, hd1⟩)
      | (at_make; refine wpList_make_full _ rfl _ _ 30 rfl w1.heap.size 2 i0 (.int .i64 0) 1 Try.underlying30 hi hz0 hz1 .i64 .i64 _ _ G.length rfl rfl rfl rfl ?b1 ?b2 ?b3 ?_))
  case b1 => rw [hz2]; omega
  case b2 => unfold maxLen; omega
  case b3 => exact Nat.le_refl _
  intro w2 hown hgr
  rw [toList_madeCells_one, ← hLl, ← fillI_zero] at hown
  have hb1 : Hid (Below w.heap.size w w2) := Lib.hid (hd1.below.grown hgr hd1.below.size (fun k hk => by cases hk))
  have hBz : w.heap.size ≤ w1.heap.size := hd1.below.size
  clear hgr hd1 cV
  rw [hLl] at hown
  generalize w1.heap.size = B at hown hBz ⊢
  go_wp2
  go_loopw [15] (fun i wr => ∃ k : Nat, k ≤ G.length ∧ i = .int .i64 k ∧ wr.ownsRow B 2 1 (.slice (some ⟨B, 0, none⟩) G.length G.length) G.length (fillI L k) ∧ Hid (Below w.heap.size w wr)) (fun i _ => G.length - (intOf i).toNat)
  case atStart => exact ⟨0, by omega, rfl, hown, hb1⟩
  case round =>
    obtain ⟨k, hk, rfl, ho, hbel⟩ := hrel
    by_cases hlt : k < G.length
    · obtain ⟨u, hu, hz⟩ := hc'.out k hlt
      have hF := hrow.out k hlt
      have hzk' := Lib.hid (hLg.out k (by omega))
      have cS := Lib.hid (rowStiff_any u G[k] wr hF (hz.below hbel.out))
      obtain ⟨z, hse⟩ : ∃ s, s = stfV G[k] := ⟨_, rfl⟩
      rw [← hse] at hzk' cS
      have c1 : wr.cell? ⟨g, o + k, none⟩ = some u := (hbel.out.cell (p := ⟨g, o + k, none⟩) hg).trans hu
      have hkI : (k : Int) < (G.length : Int) := by omega
      obtain ⟨old, hold⟩ : ∃ old, (fillI L k)[k]? = some old := ⟨_, List.getElem?_eq_getElem (by rw [fillI_len _ _ (by omega)]; omega)⟩
      have hco := (ho.cellAt k (by omega)).trans hold
      have hfo := ho.frozenAt k
      have hst := ho.stored k (.int .i64 z)
      rw [← hzk'.out, fillI_set L k (by omega), hzk'.out] at hst
      have hst' := Lib.hid hst
      clear hst ho hold hz hF hse hu
      go_wp2_with (go_at_call 58; (with_reducible refine cS.out.mono ?_); rintro e w3 ⟨rfl, rfl⟩)
      go_roundw
      case rel => exact ⟨k + 1, by omega, by go_num, hst'.out.1, Lib.hid (hbel.out.grown hst'.out.2 hbel.out.size (fun j hj => by cases hj; exact hBz))⟩
      case measure => simp [intOf]; omega
    · have hks : k = G.length := by omega
      have ho2 : Hid (wr.ownsRow B 2 1 (.slice (some ⟨B, 0, none⟩) G.length G.length) (rsV G).length ((rsV G).map encI)) := Lib.hid (by rw [hV.out]; have h2 := ho; rw [hks, ← hLl, fillI_all] at h2; rw [hLl] at h2 ⊢; exact h2)
      clear hks ho
      go_wp2
      go_ret2
      exact rowC_mk rfl rfl hBz ho2.out hbel.out
set_option maxHeartbeats 3200000 in
theorem specRowStiff_any (v : Value) (G : List (List Int)) (w : World) (hn : G.length + totL G ≤ 1048576) (hv : GridAt w v G) : Calls Try.prog 22 #[v] w (RowC (rsV G) (code (okP G) 1) w) := by
  have cV := Lib.hid (l08Ok_any v G w hn hv)
  obtain ⟨i0, hi, hz0, hz1, hz2⟩ := info_parts infoI
  have hx1 : Hid (rsV G = if okP G then G.map stfV else []) := Lib.hid rfl
  cases hok : okP G
  · rw [hok] at cV hx1
    obtain ⟨a, cap, rfl, _⟩ := hv
    clear hok hn
    go_enter Try.func22, Try.ntmps22
    go_wp2_with (go_at_call 48; refine cV.out.mono ?_; rintro e w2 ⟨rfl, hd⟩)
    go_ret2
    exact rowC_nil hx1.out rfl hd.below
  have hrow := Lib.hid (fun i (hi : i < G.length) => okP_row hok hi)
  have hR := (okG_rows (okP_okG hok)).1
  have hR2 := (okG_rows (okP_okG hok)).2.1
  rw [hok] at cV hx1
  obtain ⟨a, cap, rfl, hcap, hread⟩ := hv
  rcases hread with h | ⟨g, o, rfl, hg, hc⟩
  · subst h; simp at hR
  have hc' := Lib.hid hc
  obtain ⟨L, hL⟩ : ∃ L, L = G.map stfV := ⟨_, rfl⟩
  have hLl : L.length = G.length := by rw [hL, List.length_map]
  have hLg : Hid (∀ k (h : k < L.length), L[k] = stfV (G[k]'(by omega))) := Lib.hid (fun k h => by subst hL; simp)
  have hV : Hid (rsV G = L) := Lib.hid (by rw [hL]; exact hx1.out)
  clear hok hn hc hx1 hL
  go_enter Try.func22, Try.ntmps22
  go_wp2_with fail
  refine cV.out.mono ?_
  rintro e w1 ⟨rfl, hd1⟩
  go_wp2
  have hown0 := rowI_start w1
  have hbb0 : Hid (Below w.heap.size w (w1.alloc (.cells #[] 2))) := Lib.hid (hd1.below.alloc hd1.below.size _)
  have hBz : w.heap.size ≤ w1.heap.size := hd1.below.size
  clear hd1 cV
  have hB0 : w1.heap.size ≤ (w1.alloc (.cells #[] 2)).heap.size := by simp
  generalize w1.heap.size = B at hown0 hBz hB0 ⊢
  go_loopw [4, 5] (fun q i wr => ∃ k : Nat, k ≤ G.length ∧ i = .int .i64 k ∧ B ≤ wr.heap.size ∧ wr.ownsRow B 2 1 q (L.take k).length ((L.take k).map encI) ∧ Hid (Below w.heap.size w wr)) (fun _ i _ => G.length - (intOf i).toNat)
  case atStart => exact ⟨0, by omega, rfl, hB0, by simpa using hown0, hbb0⟩
  case round =>
    obtain ⟨k, hk, rfl, hBr, ho, hbel⟩ := hrel
    by_cases hlt : k < G.length
    · obtain ⟨u, hu, hz⟩ := hc'.out k hlt
      have hF := hrow.out k hlt
      have hzk' := Lib.hid (hLg.out k (by omega))
      have cS := Lib.hid (l08Stiff_any u G[k] wr hF (hz.below hbel.out))
      obtain ⟨z, hse⟩ : ∃ s, s = stfV G[k] := ⟨_, rfl⟩
      rw [← hse] at hzk' cS
      have c1 : wr.cell? ⟨g, o + k, none⟩ = some u := (hbel.out.cell (p := ⟨g, o + k, none⟩) hg).trans hu
      have hkI : (k : Int) < (G.length : Int) := by omega
      have htk : (L.take k).length = k := by rw [List.length_take]; omega
      have hnx : Hid (L.take (k + 1) = L.take k ++ [z]) := Lib.hid (by rw [List.take_succ_eq_append_getElem (by omega), hzk'.out])
      obtain ⟨LK, hLK⟩ : ∃ X, X = L.take k := ⟨_, rfl⟩
      rw [← hLK] at ho htk hnx
      clear hz hF hse hu hLK
      go_wp2_with fail
      refine cS.out.mono ?_
      rintro e w' ⟨rfl, m, hm⟩
      have hbel2 : Hid (Below w.heap.size w w') := Lib.hid (by rw [hm]; exact belowN hbel.out m)
      have hown2 := own_kept ho (belowN (Below.refl wr.heap.size wr) m)
      rw [← hm] at hown2
      have hBw : B ≤ w'.heap.size := by rw [hm]; exact hBr
      clear hm
      go_wp2_with (at_builtin; refine wpList_append_own _ rfl _ _ 30 rfl B 2 i0 (.int .i64 0) 1 8 Try.underlying30 hi hz0 hz1 hz2 rfl (by decide) _ _ _ rfl (hown2.alloc _) ⟨w'.heap.size, 0, none⟩ 1 1 [.int .i64 z] rfl rfl ?c1A ?c2A ?c3A ?c4A ?c5A ?_)
      case c1A =>
        intro j u hj
        match j, hj with
        | 0, hj => simp at hj; subst hj; simp [Addr.add]
      case c2A => intro u hu; simp at hu; subst hu; rfl
      case c3A => unfold maxLen; omega
      case c4A => omega
      case c5A => simp; omega
      intro v' w3 hown' hgrow' _
      have hb3 : Below w.heap.size w w3 := (hbel2.out.alloc hbel2.out.size (.cells #[.int .i64 z] 2)).grown hgrow' (by have := hbel2.out.size; simp at this ⊢; omega) (fun j hj => Nat.le_trans hBz (hown2.own_ge j hj))
      have hown3 : w3.ownsRow B 2 1 v' (L.take (k + 1)).length ((L.take (k + 1)).map encI) := by
        rw [hnx.out, List.length_append, List.map_append, List.map_singleton, htk]; simpa [encI] using hown'
      have hB3 : B ≤ w3.heap.size := by have := hgrow'.size; simp at this; omega
      have hb3' := Lib.hid hb3
      clear hgrow' hown' hb3
      go_wp2
      go_roundw
      case rel => exact ⟨k + 1, by omega, by go_num, hB3, hown3, hb3'⟩
      case measure => simp [intOf]; omega
    · have hks : k = G.length := by omega
      have hr : Hid (rsV G = L.take k) := Lib.hid (by rw [hV.out, hks, ← hLl, List.take_length])
      clear hks
      go_wp2
      go_ret2
      exact rowC_mk hr.out rfl hBz ho hbel.out
end Go.Proofs.Ytndnliaahdmbmaa
