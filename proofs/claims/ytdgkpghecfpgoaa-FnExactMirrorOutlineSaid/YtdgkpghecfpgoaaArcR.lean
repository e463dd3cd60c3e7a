/-
  Outlines at another place and mirrored: the program's changes of points.
-/
import Derived.Test.YtdgkpghecfpgoaaArcQ
import Derived.Laws.EntriesVeiled
import Derived.Shelf.RegionOpenPlain
import Derived.StillTailTactics
namespace Go.Proofs.Ytdgkpghecfpgoaa
open Go.ChangeShapes Go.WideShapes Go.ChangeAt Go.RowKit Go.Deep
set_option linter.unusedVariables false
set_option linter.unusedSimpArgs false
set_option maxRecDepth 1000000
theorem there_two {w : World} {g o : Nat} (h : w.there g o 2) : w.frozen? ⟨g, o, none⟩ = false ∧ w.frozen? ⟨g, o + 1, none⟩ = false := ⟨by simpa using (h 0 (by omega)).2, (h 1 (by omega)).2⟩
theorem PtSet.drewN {w w' : World} {g o : Nat} {u v : Int} (h : PtSet w g o u v w') (n : Nat) : PtSet w g o u v (w'.drewN n) := ⟨gtrans h.1 (below_grown' (belowN (Below.refl _ _) n) _), h.2.1, h.2.2.1, h.2.2.2.1, h.2.2.2.2⟩
theorem ptSet_one (w : World) (g o : Nat) (u v : Int) (old : Value) (c1 : w.cell? ⟨g, o + 1, none⟩ = some (.int .i64 v)) (ht : w.there g o 2) : PtSet w g o u v (w.setCell ⟨g, o, none⟩ (.int .i64 u)) := by
  obtain ⟨z, hz⟩ := Option.isSome_iff_exists.1 (ht 0 (by omega)).1
  rw [Nat.add_zero] at hz
  exact ⟨grown_set w ⟨g, o, none⟩ _, World.cell?_setCell_same _ _ _ hz, (World.cell?_setCell_other _ _ _ _ (by simp)).trans c1, fun i h1 h2 => World.cell?_setCell_other _ _ _ _ (by simp <;> omega), fun i => World.frozen?_setCell _ _ _ _⟩
theorem ptSet_snd {w W : World} {g o : Nat} {u b : Int} (h : PtSet w g o u b W) (ht : W.there g o 2) (v : Int) : PtSet w g o u v (W.setCell ⟨g, o + 1, none⟩ (.int .i64 v)) := by
  obtain ⟨h0, h1, h2, h3, h4⟩ := h
  exact ⟨gtrans h0 (grown_set W ⟨g, o + 1, none⟩ _), (World.cell?_setCell_other _ _ _ _ (by simp)).trans h1, World.cell?_setCell_same _ _ _ h2, fun i e1 e2 => (World.cell?_setCell_other _ _ _ _ (by simp <;> omega)).trans (h3 i e1 e2), fun i => (World.frozen?_setCell _ _ _ _).trans (h4 i)⟩
theorem moveOne_any (g o P Q : Nat) (a b x y : Int) (w : World) (ha : -100000 ≤ a ∧ a ≤ 100000) (hb : -100000 ≤ b ∧ b ≤ 100000) (hx : -100000 ≤ x ∧ x ≤ 100000) (hy : -100000 ≤ y ∧ y ≤ 100000) (hgP : P ≠ g) (hgQ : Q ≠ g) (ht : w.there g o 2)
    (c0 : w.cell? ⟨g, o, none⟩ = some (.int .i64 a)) (c1 : w.cell? ⟨g, o + 1, none⟩ = some (.int .i64 b)) (k0 : w.cell? ⟨P, 0, none⟩ = some (.int .i64 x)) (k1 : w.cell? ⟨Q, 0, none⟩ = some (.int .i64 y)) :
    Calls Try.prog 68 #[.pointer (some ⟨g, o, none⟩), .pointer (some ⟨P, 0, none⟩), .pointer (some ⟨Q, 0, none⟩)] w fun e w' => e = .returned (.tuple #[]) ∧ PtSet w g o (a + x) (b + y) w' := by
  obtain ⟨f0, f1⟩ := there_two ht
  have ht' := Lib.hid ht
  clear ht
  go_enter Try.func68, Try.ntmps68
  go_wp2
  go_still_tail 8, (by kernel_rfl)
  change wpList _ _ _ _ _ w.drew
  go_wp2
  have hP1 := (ptSet_one w g o (a + x) b undef c1 ht'.out).drewN 1
  change PtSet w g o (a + x) b (w.setCell ⟨g, o, none⟩ (.int .i64 (a + x))).drew at hP1
  have m1 : (w.setCell ⟨g, o, none⟩ (.int .i64 (a + x))).drew.cell? ⟨Q, 0, none⟩ = some (.int .i64 y) := (World.cell?_setCell_other _ _ _ _ (fun e => by injection e with e; exact hgQ e.symm)).trans k1
  have m0 := hP1.2.2.1
  have g1 : (w.setCell ⟨g, o, none⟩ (.int .i64 (a + x))).drew.frozen? ⟨g, o + 1, none⟩ = false := (hP1.2.2.2.2 _).trans f1
  have htw : (w.setCell ⟨g, o, none⟩ (.int .i64 (a + x))).drew.there g o 2 := by
    intro j hj
    match j, hj with
    | 0, _ => rw [Nat.add_zero, hP1.2.1]; exact ⟨rfl, (hP1.2.2.2.2 _).trans f0⟩
    | 1, _ => rw [m0]; exact ⟨rfl, g1⟩
  have hP1' := Lib.hid hP1
  generalize (w.setCell ⟨g, o, none⟩ (.int .i64 (a + x))).drew = W1 at m0 m1 g1 htw hP1' ⊢
  clear hP1 c0 c1 k0 k1 f0 f1
  have htw' := Lib.hid htw
  clear htw
  go_still_tail 8, (by kernel_rfl)
  change wpList _ _ _ _ _ W1.drew
  go_wp2
  refine bodyPost_end (v := .tuple #[]) (results_none rfl _ _ _) rfl ⟨rfl, ?_⟩
  exact (ptSet_snd hP1'.out htw'.out (b + y)).drewN 1
theorem mirrorOne_any (g o : Nat) (a b : Int) (w : World) (ha : -100000 ≤ a ∧ a ≤ 100000) (ht : w.there g o 2)
    (c0 : w.cell? ⟨g, o, none⟩ = some (.int .i64 a)) (c1 : w.cell? ⟨g, o + 1, none⟩ = some (.int .i64 b)) :
    Calls Try.prog 70 #[.pointer (some ⟨g, o, none⟩)] w fun e w' => e = .returned (.tuple #[]) ∧ PtSet w g o (-a) b w' := by
  obtain ⟨f0, f1⟩ := there_two ht
  have ht' := Lib.hid ht
  clear ht
  go_enter Try.func70, Try.ntmps70
  go_wp2
  refine bodyPost_end (v := .tuple #[]) (results_none rfl _ _ _) rfl ⟨rfl, ?_⟩
  exact ptSet_one w g o (-a) b undef c1 ht'.out
theorem step_move (g m p o : Nat) (x y : Int) (P Q : Nat) (a b : Int) (F : Nat → Int × Int) (W : World) (hp : p < m) (ho : o = p * 2) (hR : RowP g m F W) (hF : F p = (a, b)) (hT : W.there g 0 (m * 2)) (hab : (-100000 ≤ a ∧ a ≤ 100000) ∧ (-100000 ≤ b ∧ b ≤ 100000)) (hx : -100000 ≤ x ∧ x ≤ 100000) (hy : -100000 ≤ y ∧ y ≤ 100000) (hP : P ≠ g) (hQ : Q ≠ g) (k0 : W.cell? ⟨P, 0, none⟩ = some (.int .i64 x)) (k1 : W.cell? ⟨Q, 0, none⟩ = some (.int .i64 y)) :
    Calls Try.prog 68 #[.pointer (some ⟨g, o, none⟩), .pointer (some ⟨P, 0, none⟩), .pointer (some ⟨Q, 0, none⟩)] W fun e w' => e = .returned (.tuple #[]) ∧ RowP g m (fun i => if i = p then (a + x, b + y) else F i) w' ∧ w'.there g 0 (m * 2) ∧ W.grownBy w' (some g) := by
  subst ho
  have h := hR p hp
  rw [hF] at h
  refine (moveOne_any g (p * 2) P Q a b x y W hab.1 hab.2 hx hy hP hQ (there_part hT _ _ (by omega)) h.1 h.2 k0 k1).mono ?_
  rintro e w' ⟨rfl, hs⟩
  exact ⟨rfl, hs.row hR, hs.there hT, hs.1⟩
theorem step_flip (g m p o : Nat)  (a b : Int) (F : Nat → Int × Int) (W : World) (hp : p < m) (ho : o = p * 2) (hR : RowP g m F W) (hF : F p = (a, b)) (hT : W.there g 0 (m * 2)) (hab : (-100000 ≤ a ∧ a ≤ 100000) ∧ (-100000 ≤ b ∧ b ≤ 100000)) :
    Calls Try.prog 70 #[.pointer (some ⟨g, o, none⟩)] W fun e w' => e = .returned (.tuple #[]) ∧ RowP g m (fun i => if i = p then (-a, b) else F i) w' ∧ w'.there g 0 (m * 2) ∧ W.grownBy w' (some g) := by
  subst ho
  have h := hR p hp
  rw [hF] at h
  refine (mirrorOne_any g (p * 2) a b W hab.1 (there_part hT _ _ (by omega)) h.1 h.2).mono ?_
  rintro e w' ⟨rfl, hs⟩
  exact ⟨rfl, hs.row hR, hs.there hT, hs.1⟩
/-- what is made of the first k arcs' points -/
def chg_move (x y : Int) (F : Nat → Int × Int) (k : Nat) (i : Nat) : Int × Int := if i < 3 * k then ((F i).1 + x, (F i).2 + y) else F i
set_option maxHeartbeats 6400000 in
theorem changePoints_move (v : Value) (Z : List Arc) (x y : Int) (P Q : Nat) (hx : -100000 ≤ x ∧ x ≤ 100000) (hy : -100000 ≤ y ∧ y ≤ 100000) (w : World) (hP : P < w.heap.size) (hQ : Q < w.heap.size) (k0 : w.cell? ⟨P, 0, none⟩ = some (.int .i64 x)) (k1 : w.cell? ⟨Q, 0, none⟩ = some (.int .i64 y)) (hout0 : outB Z = true) (hv : ArcsAt w v Z) : Calls Try.prog 67 #[v, .func (Fn.func 68) #[] #[.pointer (some ⟨P, 0, none⟩), .pointer (some ⟨Q, 0, none⟩)]] w fun e w' => ∃ g, e = .returned (.slice (some ⟨g, 0, none⟩) Z.length Z.length) ∧ w.heap.size ≤ g ∧ g < w'.heap.size ∧ RowP g (3 * Z.length) (fun i => ((ptsOf Z i).1 + x, (ptsOf Z i).2 + y)) w' ∧ w'.there g 0 (Z.length * 6) ∧ Below w.heap.size w w' := by
  obtain ⟨i0, hi, hz0, hz1, hz2⟩ := info_parts infoArc
  have hlen := out_len hout0
  have hout := Lib.hid hout0
  obtain ⟨p, cap, rfl, hcap, _, hread⟩ := hv
  rcases hread with h | ⟨gg, oo, rfl, hgg, hcc⟩
  · subst h; simp at hlen
  have hsrc : Hid (∀ j v, (flatA Z)[j]? = some v → w.cell? ⟨gg, oo + j, none⟩ = some v) := Lib.hid (fun j v hv => by
    have hj : j < Z.length * 6 := by have := (List.getElem?_eq_some_iff.1 hv).1; rwa [flatA_len] at this
    have hi : j / 6 < Z.length := by omega
    have h1 := flatA_get Z (j / 6) hi (j % 6) (Nat.mod_lt _ (by omega))
    rw [show j / 6 * 6 + j % 6 = j by omega, hv] at h1
    have h2 := hcc (j / 6) hi (j % 6) v h1.symm
    rwa [show oo + j / 6 * 6 + j % 6 = oo + j by omega] at h2)
  have hone : Hid (∀ v ∈ flatA Z, v.oneCell' = true) := Lib.hid (fun v hv => by
    unfold flatA at hv
    obtain ⟨x, _, hx⟩ := List.mem_flatMap.1 hv
    simp only [Arc.cells, List.mem_cons, List.not_mem_nil, or_false] at hx
    rcases hx with rfl | rfl | rfl | rfl | rfl | rfl <;> rfl)
  clear hout0 hcc
  go_enter Try.func67, Try.ntmps67
  go_wp2_with (at_make; refine wpList_make_full _ rfl _ _ 35 rfl w.heap.size 29 i0 _ 6 Try.underlying35 hi hz0 hz1 .i64 .i64 _ _ Z.length rfl rfl rfl rfl ?b1 ?b2 ?b3 ?_)
  case b1 => rw [hz2]; omega
  case b2 => unfold maxLen; omega
  case b3 => exact Nat.le_refl _
  intro w1 hown hgr
  have hth : w1.there w.heap.size 0 (Z.length * 6) := there_own hown
  have hb1 : Below w.heap.size w w1 := (Below.refl _ _).grown hgr (Nat.le_refl _) (fun k hk => by cases hk)
  have hlt1 : w.heap.size < w1.heap.size := (hown.lt w.heap.size rfl).2
  clear hgr hown
  go_wp2_with (refine wpList_copy_wide rfl _ _ 35 35 rfl 29 Try.underlying35 6 sizeArc w.heap.size _ _ ⟨gg, oo, none⟩ _ _ rfl rfl (flatA Z) ?c1 ?c2 ?c3 hone.out ?_)
  case c1 => rw [flatA_len]; simp
  case c2 => intro j v hv; rw [add_plain]; exact (hb1.cell (p := ⟨gg, _, none⟩) hgg).trans (hsrc.out j v hv)
  case c3 => rw [flatA_len]; exact hth
  have hR0 : RowP w.heap.size (3 * Z.length) (chg_move x y (ptsOf Z) 0) (w1.setCells w.heap.size 0 (flatA Z)) := (rowP_of (World.rangeAt_setCells_same _ _ _ _ (by rw [flatA_len]; exact hth))).congr (fun i _ => by unfold chg_move; rw [if_neg (by omega)])
  have hT0 := World.there_setCells hth w.heap.size 0 (flatA Z)
  have hb2 := below_sets (Nat.le_refl _) (flatA Z) 0 _ hb1
  have hlt2 : w.heap.size < (w1.setCells w.heap.size 0 (flatA Z)).heap.size := by rw [size_sets]; exact hlt1
  generalize w1.setCells w.heap.size 0 (flatA Z) = W2 at hR0 hT0 hb2 hlt2 ⊢
  have hR := Lib.hid hR0
  have hT := Lib.hid hT0
  have hbb := Lib.hid hb2
  clear hR0 hT0 hb2 hth hb1 hlt1 hsrc hone hi hz0 hz1 hz2
  go_loopw [15] (fun i wr => ∃ k : Nat, k ≤ Z.length ∧ i = .int .i64 k ∧ w.heap.size < wr.heap.size ∧ Hid (RowP w.heap.size (3 * Z.length) (chg_move x y (ptsOf Z) k) wr) ∧ Hid (wr.there w.heap.size 0 (Z.length * 6)) ∧ Hid (Below w.heap.size w wr)) (fun i _ => Z.length - (intOf i).toNat)
  case atStart => exact ⟨0, by omega, rfl, hlt2, hR, hT, hbb⟩
  case round =>
    obtain ⟨k, hk, rfl, hlt3, hR3, hT3, hb3⟩ := hrel
    by_cases hlt : k < Z.length
    · have hkI : (k : Int) < (Z.length : Int) := by omega
      have q0 := pts_in hout.out (p := 3 * k) (by omega)
      have q1 := pts_in hout.out (p := 3 * k + 1) (by omega)
      have q2 := pts_in hout.out (p := 3 * k + 2) (by omega)
      have Q0 := Lib.hid q0
      have Q1 := Lib.hid q1
      have Q2 := Lib.hid q2
      clear q0 q1 q2
      go_wp2_with fail
      refine (step_move w.heap.size (3 * Z.length) (3 * k) (k * 6) x y P Q (ptsOf Z (3 * k)).1 (ptsOf Z (3 * k)).2 _ wr (by omega) (by omega) hR3.out (by unfold chg_move; rw [if_neg (by omega)]) (by rw [show 3 * Z.length * 2 = Z.length * 6 by omega]; exact hT3.out) Q0.out hx hy (by omega) (by omega) ((hb3.out.cell (p := ⟨P, _, none⟩) hP).trans k0) ((hb3.out.cell (p := ⟨Q, _, none⟩) hQ).trans k1)).mono ?_
      rintro e ya ⟨rfl, hRa, hTa, hga⟩
      have hba := Lib.hid (hb3.out.grown hga hb3.out.size (fun j hj => by cases hj; exact Nat.le_refl _))
      have hRa' := Lib.hid hRa
      have hTa' := Lib.hid hTa
      have hsa := Nat.lt_of_lt_of_le hlt3 hga.size
      clear hRa hTa hga
      go_wp2_with fail
      refine (step_move w.heap.size (3 * Z.length) (3 * k + 1) (k * 6 + 2) x y P Q (ptsOf Z (3 * k + 1)).1 (ptsOf Z (3 * k + 1)).2 _ ya (by omega) (by omega) hRa'.out (by rw [if_neg (by omega)]; unfold chg_move; rw [if_neg (by omega)]) hTa'.out Q1.out hx hy (by omega) (by omega) ((hba.out.cell (p := ⟨P, _, none⟩) hP).trans k0) ((hba.out.cell (p := ⟨Q, _, none⟩) hQ).trans k1)).mono ?_
      rintro e yb ⟨rfl, hRb, hTb, hgb⟩
      have hbb2 := Lib.hid (hba.out.grown hgb hba.out.size (fun j hj => by cases hj; exact Nat.le_refl _))
      have hRb' := Lib.hid hRb
      have hTb' := Lib.hid hTb
      have hsb := Nat.lt_of_lt_of_le hsa hgb.size
      clear hRb hTb hgb
      go_wp2_with fail
      refine (step_move w.heap.size (3 * Z.length) (3 * k + 2) (k * 6 + 4) x y P Q (ptsOf Z (3 * k + 2)).1 (ptsOf Z (3 * k + 2)).2 _ yb (by omega) (by omega) hRb'.out (by rw [if_neg (by omega), if_neg (by omega)]; unfold chg_move; rw [if_neg (by omega)]) hTb'.out Q2.out hx hy (by omega) (by omega) ((hbb2.out.cell (p := ⟨P, _, none⟩) hP).trans k0) ((hbb2.out.cell (p := ⟨Q, _, none⟩) hQ).trans k1)).mono ?_
      rintro e yc ⟨rfl, hRc, hTc, hgc⟩
      have hbc := Lib.hid (hbb2.out.grown hgc hbb2.out.size (fun j hj => by cases hj; exact Nat.le_refl _))
      have hsc := Nat.lt_of_lt_of_le hsb hgc.size
      have hTc' : Hid (yc.there w.heap.size 0 (Z.length * 6)) := Lib.hid (by rw [show Z.length * 6 = 3 * Z.length * 2 by omega]; exact hTc)
      have hRc' : Hid (RowP w.heap.size (3 * Z.length) (chg_move x y (ptsOf Z) (k + 1)) yc) := Lib.hid (hRc.congr (fun i _ => by
        unfold chg_move
        by_cases e2 : i = 3 * k + 2
        · subst e2; rw [if_pos rfl, if_pos (by omega)]
        · rw [if_neg e2]
          by_cases e1 : i = 3 * k + 1
          · subst e1; rw [if_pos rfl, if_pos (by omega)]
          · rw [if_neg e1]
            by_cases e0 : i = 3 * k
            · subst e0; rw [if_pos rfl, if_pos (by omega)]
            · rw [if_neg e0]
              by_cases h : i < 3 * k
              · rw [if_pos h, if_pos (by omega)]
              · rw [if_neg h, if_neg (by omega)]))
      clear hRc hTc hgc
      go_wp2
      go_roundw
      case rel => exact ⟨k + 1, by omega, by go_num, hsc, hRc', hTc', hbc⟩
      case measure => simp [intOf]; omega
    · obtain rfl : k = Z.length := by omega
      go_wp2
      go_ret
      exact ⟨_, rfl, Nat.le_refl _, hlt3, hR3.out.congr (fun i hi => by unfold chg_move; rw [if_pos hi]), hT3.out, hb3.out⟩
/-- what is made of the first k arcs' points -/
def chg_flip  (F : Nat → Int × Int) (k : Nat) (i : Nat) : Int × Int := if i < 3 * k then (-(F i).1, (F i).2) else F i
set_option maxHeartbeats 6400000 in
theorem changePoints_flip (v : Value) (Z : List Arc)  (w : World) (hout0 : outB Z = true) (hv : ArcsAt w v Z) : Calls Try.prog 67 #[v, .func (Fn.func 70) #[] #[]] w fun e w' => ∃ g, e = .returned (.slice (some ⟨g, 0, none⟩) Z.length Z.length) ∧ w.heap.size ≤ g ∧ g < w'.heap.size ∧ RowP g (3 * Z.length) (fun i => (-(ptsOf Z i).1, (ptsOf Z i).2)) w' ∧ w'.there g 0 (Z.length * 6) ∧ Below w.heap.size w w' := by
  obtain ⟨i0, hi, hz0, hz1, hz2⟩ := info_parts infoArc
  have hlen := out_len hout0
  have hout := Lib.hid hout0
  obtain ⟨p, cap, rfl, hcap, _, hread⟩ := hv
  rcases hread with h | ⟨gg, oo, rfl, hgg, hcc⟩
  · subst h; simp at hlen
  have hsrc : Hid (∀ j v, (flatA Z)[j]? = some v → w.cell? ⟨gg, oo + j, none⟩ = some v) := Lib.hid (fun j v hv => by
    have hj : j < Z.length * 6 := by have := (List.getElem?_eq_some_iff.1 hv).1; rwa [flatA_len] at this
    have hi : j / 6 < Z.length := by omega
    have h1 := flatA_get Z (j / 6) hi (j % 6) (Nat.mod_lt _ (by omega))
    rw [show j / 6 * 6 + j % 6 = j by omega, hv] at h1
    have h2 := hcc (j / 6) hi (j % 6) v h1.symm
    rwa [show oo + j / 6 * 6 + j % 6 = oo + j by omega] at h2)
  have hone : Hid (∀ v ∈ flatA Z, v.oneCell' = true) := Lib.hid (fun v hv => by
    unfold flatA at hv
    obtain ⟨x, _, hx⟩ := List.mem_flatMap.1 hv
    simp only [Arc.cells, List.mem_cons, List.not_mem_nil, or_false] at hx
    rcases hx with rfl | rfl | rfl | rfl | rfl | rfl <;> rfl)
  clear hout0 hcc
  go_enter Try.func67, Try.ntmps67
  go_wp2_with (at_make; refine wpList_make_full _ rfl _ _ 35 rfl w.heap.size 29 i0 _ 6 Try.underlying35 hi hz0 hz1 .i64 .i64 _ _ Z.length rfl rfl rfl rfl ?b1 ?b2 ?b3 ?_)
  case b1 => rw [hz2]; omega
  case b2 => unfold maxLen; omega
  case b3 => exact Nat.le_refl _
  intro w1 hown hgr
  have hth : w1.there w.heap.size 0 (Z.length * 6) := there_own hown
  have hb1 : Below w.heap.size w w1 := (Below.refl _ _).grown hgr (Nat.le_refl _) (fun k hk => by cases hk)
  have hlt1 : w.heap.size < w1.heap.size := (hown.lt w.heap.size rfl).2
  clear hgr hown
  go_wp2_with (refine wpList_copy_wide rfl _ _ 35 35 rfl 29 Try.underlying35 6 sizeArc w.heap.size _ _ ⟨gg, oo, none⟩ _ _ rfl rfl (flatA Z) ?c1 ?c2 ?c3 hone.out ?_)
  case c1 => rw [flatA_len]; simp
  case c2 => intro j v hv; rw [add_plain]; exact (hb1.cell (p := ⟨gg, _, none⟩) hgg).trans (hsrc.out j v hv)
  case c3 => rw [flatA_len]; exact hth
  have hR0 : RowP w.heap.size (3 * Z.length) (chg_flip (ptsOf Z) 0) (w1.setCells w.heap.size 0 (flatA Z)) := (rowP_of (World.rangeAt_setCells_same _ _ _ _ (by rw [flatA_len]; exact hth))).congr (fun i _ => by unfold chg_flip; rw [if_neg (by omega)])
  have hT0 := World.there_setCells hth w.heap.size 0 (flatA Z)
  have hb2 := below_sets (Nat.le_refl _) (flatA Z) 0 _ hb1
  have hlt2 : w.heap.size < (w1.setCells w.heap.size 0 (flatA Z)).heap.size := by rw [size_sets]; exact hlt1
  generalize w1.setCells w.heap.size 0 (flatA Z) = W2 at hR0 hT0 hb2 hlt2 ⊢
  have hR := Lib.hid hR0
  have hT := Lib.hid hT0
  have hbb := Lib.hid hb2
  clear hR0 hT0 hb2 hth hb1 hlt1 hsrc hone hi hz0 hz1 hz2
  go_loopw [15] (fun i wr => ∃ k : Nat, k ≤ Z.length ∧ i = .int .i64 k ∧ w.heap.size < wr.heap.size ∧ Hid (RowP w.heap.size (3 * Z.length) (chg_flip (ptsOf Z) k) wr) ∧ Hid (wr.there w.heap.size 0 (Z.length * 6)) ∧ Hid (Below w.heap.size w wr)) (fun i _ => Z.length - (intOf i).toNat)
  case atStart => exact ⟨0, by omega, rfl, hlt2, hR, hT, hbb⟩
  case round =>
    obtain ⟨k, hk, rfl, hlt3, hR3, hT3, hb3⟩ := hrel
    by_cases hlt : k < Z.length
    · have hkI : (k : Int) < (Z.length : Int) := by omega
      have q0 := pts_in hout.out (p := 3 * k) (by omega)
      have q1 := pts_in hout.out (p := 3 * k + 1) (by omega)
      have q2 := pts_in hout.out (p := 3 * k + 2) (by omega)
      have Q0 := Lib.hid q0
      have Q1 := Lib.hid q1
      have Q2 := Lib.hid q2
      clear q0 q1 q2
      go_wp2_with fail
      refine (step_flip w.heap.size (3 * Z.length) (3 * k) (k * 6) (ptsOf Z (3 * k)).1 (ptsOf Z (3 * k)).2 _ wr (by omega) (by omega) hR3.out (by unfold chg_flip; rw [if_neg (by omega)]) (by rw [show 3 * Z.length * 2 = Z.length * 6 by omega]; exact hT3.out) Q0.out).mono ?_
      rintro e ya ⟨rfl, hRa, hTa, hga⟩
      have hba := Lib.hid (hb3.out.grown hga hb3.out.size (fun j hj => by cases hj; exact Nat.le_refl _))
      have hRa' := Lib.hid hRa
      have hTa' := Lib.hid hTa
      have hsa := Nat.lt_of_lt_of_le hlt3 hga.size
      clear hRa hTa hga
      go_wp2_with fail
      refine (step_flip w.heap.size (3 * Z.length) (3 * k + 1) (k * 6 + 2) (ptsOf Z (3 * k + 1)).1 (ptsOf Z (3 * k + 1)).2 _ ya (by omega) (by omega) hRa'.out (by rw [if_neg (by omega)]; unfold chg_flip; rw [if_neg (by omega)]) hTa'.out Q1.out).mono ?_
      rintro e yb ⟨rfl, hRb, hTb, hgb⟩
      have hbb2 := Lib.hid (hba.out.grown hgb hba.out.size (fun j hj => by cases hj; exact Nat.le_refl _))
      have hRb' := Lib.hid hRb
      have hTb' := Lib.hid hTb
      have hsb := Nat.lt_of_lt_of_le hsa hgb.size
      clear hRb hTb hgb
      go_wp2_with fail
      refine (step_flip w.heap.size (3 * Z.length) (3 * k + 2) (k * 6 + 4) (ptsOf Z (3 * k + 2)).1 (ptsOf Z (3 * k + 2)).2 _ yb (by omega) (by omega) hRb'.out (by rw [if_neg (by omega), if_neg (by omega)]; unfold chg_flip; rw [if_neg (by omega)]) hTb'.out Q2.out).mono ?_
      rintro e yc ⟨rfl, hRc, hTc, hgc⟩
      have hbc := Lib.hid (hbb2.out.grown hgc hbb2.out.size (fun j hj => by cases hj; exact Nat.le_refl _))
      have hsc := Nat.lt_of_lt_of_le hsb hgc.size
      have hTc' : Hid (yc.there w.heap.size 0 (Z.length * 6)) := Lib.hid (by rw [show Z.length * 6 = 3 * Z.length * 2 by omega]; exact hTc)
      have hRc' : Hid (RowP w.heap.size (3 * Z.length) (chg_flip (ptsOf Z) (k + 1)) yc) := Lib.hid (hRc.congr (fun i _ => by
        unfold chg_flip
        by_cases e2 : i = 3 * k + 2
        · subst e2; rw [if_pos rfl, if_pos (by omega)]
        · rw [if_neg e2]
          by_cases e1 : i = 3 * k + 1
          · subst e1; rw [if_pos rfl, if_pos (by omega)]
          · rw [if_neg e1]
            by_cases e0 : i = 3 * k
            · subst e0; rw [if_pos rfl, if_pos (by omega)]
            · rw [if_neg e0]
              by_cases h : i < 3 * k
              · rw [if_pos h, if_pos (by omega)]
              · rw [if_neg h, if_neg (by omega)]))
      clear hRc hTc hgc
      go_wp2
      go_roundw
      case rel => exact ⟨k + 1, by omega, by go_num, hsc, hRc', hTc', hbc⟩
      case measure => simp [intOf]; omega
    · obtain rfl : k = Z.length := by omega
      go_wp2
      go_ret
      exact ⟨_, rfl, Nat.le_refl _, hlt3, hR3.out.congr (fun i hi => by unfold chg_flip; rw [if_pos hi]), hT3.out, hb3.out⟩
end Go.Proofs.Ytdgkpghecfpgoaa
