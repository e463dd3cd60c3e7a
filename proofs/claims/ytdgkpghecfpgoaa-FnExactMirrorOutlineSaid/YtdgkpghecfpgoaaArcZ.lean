/-
  Outlines mirrored: the program's contract.
-/
import Derived.Test.YtdgkpghecfpgoaaArcY
namespace Go.Proofs.Ytdgkpghecfpgoaa
open Go.ChangeShapes Go.WideShapes Go.ChangeAt Go.RowKit Go.Deep
set_option linter.unusedVariables false
set_option linter.unusedSimpArgs false
set_option maxRecDepth 1000000
def swpA (a : Arc) : Arc := ⟨a.cx, a.cy, a.tx, a.ty, a.fx, a.fy⟩
theorem RowF.ft {g n k : Nat} {A : Nat → Arc} (a : Int) (b : Int) (c : Int) (d : Int) (p : Int) (s : Int) {w : World} (h : RowF g n A w) (hT : w.there g 0 (n * 6)) (hk : k < n) (e : A k = ⟨a, b, c, d, p, s⟩) : RowF g n (fun t => if t = k then swpA (A t) else A t) (w.setCells g (k * 6 + 2) [.int .i64 p, .int .i64 s, .int .i64 c, .int .i64 d]) := by
  have hs := World.rangeAt_setCells_same w g (k * 6 + 2) [.int .i64 p, .int .i64 s, .int .i64 c, .int .i64 d] (there_part hT _ _ (by simp; omega))
  intro t ht
  by_cases e1 : t = k
  · subst e1
    simp only [if_true]
    rw [e]
    have h0 := h t ht
    rw [e] at h0
    have low : ∀ j v, j < 2 → (⟨a, b, c, d, p, s⟩ : Arc).cells[j]? = some v → (w.setCells g (t * 6 + 2) [.int .i64 p, .int .i64 s, .int .i64 c, .int .i64 d]).cell? ⟨g, t * 6 + j, none⟩ = some v := fun j v hj hv =>
      (World.cell?_setCells_out g [.int .i64 p, .int .i64 s, .int .i64 c, .int .i64 d] (t * 6 + 2) w ⟨g, t * 6 + j, none⟩ (fun _ _ => Or.inl (by show t * 6 + j < t * 6 + 2; omega))).trans (h0 j v hv)
    intro j v hv
    match j, hv with
    | 0, hv => exact low 0 v (by omega) hv
    | 1, hv => exact low 1 v (by omega) hv
    | 2, hv => exact hs 0 v hv
    | 3, hv => exact hs 1 v hv
    | 4, hv => exact hs 2 v hv
    | 5, hv => exact hs 3 v hv
    | j + 6, hv => simp [swpA, Arc.cells] at hv
  · simp only [e1, if_false]
    refine World.rangeAt_setCells_apart (h t ht) _ _ _ ?_
    rcases Nat.lt_or_gt_of_ne e1 with h1 | h1
    · exact Or.inr (Or.inl (by rw [cells_six]; omega))
    · exact Or.inr (Or.inr (by simp; omega))
def ftF (A : Nat → Arc) (k t : Nat) : Arc := if t < k then swpA (A t) else A t
def flipF (Z : List Arc) (t : Nat) : Arc := arcF (fun i => (-(ptsOf Z i).1, (ptsOf Z i).2)) (Z.length - 1 - t)
theorem flip_mir (Z : List Arc) : (List.range Z.length).map (fun t => swpA (flipF Z t)) = mirD Z 0 := by
  unfold mirD
  rw [List.drop_zero]
  refine List.ext_getElem (by simp) (fun t h1 h2 => ?_)
  have ht : t < Z.length := by simpa using h1
  have hq : Z.length - 1 - t < Z.length := by omega
  obtain ⟨e0, e1, e2⟩ := ptsOf_arc Z (Z.length - 1 - t)
  rw [List.getElem_map, List.getElem_range, List.getElem_reverse, List.getElem_map]
  unfold flipF arcF
  simp only [e0, e1, e2, getD_of _ hq, List.length_map]
  rfl
set_option maxHeartbeats 3200000 in
theorem implMirrorOutline_any (v : Value) (Z : List Arc) (w : World) (hn : Z.length ≤ 1048576) (hv : ArcsAt w v Z) : Calls Try.prog 41 #[v] w (RowA (mirV Z) (okC Z) w) := by
  have cO := Lib.hid (implValidOutline_any v Z w hn hv)
  cases hout0 : outB Z
  · have hc1 : Hid (mirV Z = [] ∧ okC Z = 1) := Lib.hid (by unfold mirV okC; rw [hout0]; exact ⟨rfl, rfl⟩)
    rw [hout0] at cO
    go_enter Try.func41, Try.ntmps41
    go_wp2_with (go_at_call 21; (with_reducible refine cO.out.mono ?_); rintro e w1 ⟨rfl, hbel1⟩)
    go_ret2
    exact rowA_nil hc1.out.1 hc1.out.2 hbel1
  have hlen := out_len hout0
  rw [hout0] at cO
  have cM := Lib.hid (fun W (hb : Below w.heap.size w W) => changePoints_flip v Z W hout0 (hv.below hb))
  have hc1 : Hid (mirV Z = mirD Z 0 ∧ okC Z = 0) := Lib.hid (by unfold mirV okC; rw [hout0]; exact ⟨rfl, rfl⟩)
  clear hout0 hv
  go_enter Try.func41, Try.ntmps41
  go_wp2_with fail
  refine cO.out.mono ?_
  rintro e w1 ⟨rfl, hb1⟩
  go_wp2_with fail
  refine (cM.out _ hb1).mono ?_
  rintro e w2 ⟨g, rfl, g1, g2, g3, g4, hb2⟩
  have hBg : w.heap.size ≤ g := Nat.le_trans hb1.size g1
  have hb12 := Lib.hid (below2 hb1 hb2)
  have cR := Lib.hid (reverse_any g Z.length Z.length _ w2 (by omega) (Nat.le_refl _) g2 (rowF_of g3) g4)
  clear g1 g2 g3 g4 hb1 hb2 cO cM
  go_wp2_with fail
  refine cR.out.mono ?_
  rintro e w3 ⟨rfl, r1, r2, r3⟩
  have hb3 := Lib.hid (hb12.out.grown r3 hb12.out.size (fun j hj => by cases hj; exact hBg))
  have hg3 : g < w3.heap.size := by
    have := (r2 0 (by omega)).1
    obtain ⟨z, hz⟩ := Option.isSome_iff_exists.1 this
    exact World.block_lt_of_cell? w3 _ hz
  have r1' : Hid (RowF g Z.length (ftF (flipF Z) 0) w3) := Lib.hid (r1.congr (fun t ht => by unfold ftF; rw [if_neg (by omega)]; rfl))
  have r2' := Lib.hid r2
  have hBg' := Lib.hid hBg
  clear r1 r2 r3 hb12 cR hBg
  go_wp2
  go_loopw [16] (fun i wr => ∃ k : Nat, k ≤ Z.length ∧ i = .int .i64 k ∧ g < wr.heap.size ∧ Hid (RowF g Z.length (ftF (flipF Z) k) wr) ∧ Hid (wr.there g 0 (Z.length * 6)) ∧ Hid (Below w.heap.size w wr)) (fun i _ => Z.length - (intOf i).toNat)
  case atStart => exact ⟨0, by omega, rfl, hg3, r1', r2', hb3⟩
  case round =>
    obtain ⟨k, hk, rfl, hgr, hR, hTh, hbel0⟩ := hrel
    have hb := hbel0.out
    by_cases hlt : k < Z.length
    · have hkI : (k : Int) < (Z.length : Int) := by omega
      have hr0 := hR.out k hlt
      obtain ⟨x, hx⟩ : ∃ x, x = ftF (flipF Z) k k := ⟨_, rfl⟩
      rw [← hx] at hr0
      have hxH := Lib.hid hx
      have hnew : Hid (∀ t, t < Z.length → (if t = k then swpA (ftF (flipF Z) k t) else ftF (flipF Z) k t) = ftF (flipF Z) (k + 1) t) := Lib.hid (fun t ht => by
        by_cases h1 : t = k
        · subst h1; rw [if_pos rfl]; unfold ftF; rw [if_neg (by omega), if_pos (by omega)]
        · rw [if_neg h1]; unfold ftF
          by_cases h2 : t < k
          · rw [if_pos h2, if_pos (by omega)]
          · rw [if_neg h2, if_neg (by omega)])
      obtain ⟨a, b, c, d, p, s⟩ := x
      have hr1 : wr.rangeAt g (k * 6) [.int .i64 a, .int .i64 b, .int .i64 c, .int .i64 d, .int .i64 p, .int .i64 s] := hr0
      clear hr0 hx
      go_upto_region 8 with (refine wpList_load_mid rfl _ _ rfl g (k * 6) rfl _ _ hr1 Try.underlying29 rfl rfl ?_)
      obtain ⟨q1, hB0, hsz⟩ := one_box wr #[.int .i64 a, .int .i64 b, .int .i64 c, .int .i64 d, .int .i64 p, .int .i64 s] 29
      generalize hBx : wr.heap.size = B at q1 hsz hgr ⊢
      have hR0 : RowF g Z.length (ftF (flipF Z) k) (wr.alloc (.cells #[.int .i64 a, .int .i64 b, .int .i64 c, .int .i64 d, .int .i64 p, .int .i64 s] 29)) := fun t ht => range_below (hR.out t ht) (by omega) hB0
      have hT0 := there_below hTh.out (by omega) hB0
      have hbW := below2 hb hB0
      generalize (wr.alloc (.cells #[.int .i64 a, .int .i64 b, .int .i64 c, .int .i64 d, .int .i64 p, .int .i64 s] 29)) = W0 at q1 hsz hR0 hT0 hbW ⊢
      have hP := arcAt_of (show W0.rangeAt g (k * 6) (Arc.cells ⟨a, b, c, d, p, s⟩) from by have := hR0 k hlt; rw [← hxH.out] at this; exact this)
      obtain ⟨c0, c1, c2, c3, c4, c5⟩ := hP
      simp only at c0 c1 c2 c3 c4 c5
      have n2 := q1 2 _ rfl
      have n3 := q1 3 _ rfl
      have n4 := q1 4 _ rfl
      have n5 := q1 5 _ rfl
      have fr : ∀ i, i < Z.length * 6 → W0.frozen? ⟨g, i, none⟩ = false := fun i hi => by have := (hT0 i hi).2; rwa [Nat.zero_add] at this
      have f2 := fr (k * 6 + 2) (by omega)
      have f3 := fr (k * 6 + 3) (by omega)
      have f4 := fr (k * 6 + 4) (by omega)
      have f5 := fr (k * 6 + 5) (by omega)
      have hgB : g ≠ B := by omega
      have F0 : RowF g Z.length (ftF (flipF Z) (k + 1)) (W0.setCells g (k * 6 + 2) [.int .i64 p, .int .i64 s, .int .i64 c, .int .i64 d]).drew := rowF_drew ((hR0.ft (a := a) (b := b) (c := c) (d := d) (p := p) (s := s) hT0 hlt hxH.out.symm).congr hnew.out)
      have F1 := there_drew (World.there_setCells hT0 g (k * 6 + 2) [.int .i64 p, .int .i64 s, .int .i64 c, .int .i64 d])
      have F2 := belowN (below_sets hBg'.out [.int .i64 p, .int .i64 s, .int .i64 c, .int .i64 d] (k * 6 + 2) _ hbW) 1
      change Below w.heap.size w (W0.setCells g (k * 6 + 2) [.int .i64 p, .int .i64 s, .int .i64 c, .int .i64 d]).drew at F2
      have F3 : g < (W0.setCells g (k * 6 + 2) [.int .i64 p, .int .i64 s, .int .i64 c, .int .i64 d]).drew.heap.size := by
        rw [drew_size, size_sets]; omega
      have hnest : (((((W0.setCell ⟨g, k * 6 + 2, none⟩ (.int .i64 p)).setCell ⟨g, k * 6 + 3, none⟩ (.int .i64 s)).setCell ⟨g, k * 6 + 4, none⟩ (.int .i64 c)).setCell ⟨g, k * 6 + 5, none⟩ (.int .i64 d))).drew = (W0.setCells g (k * 6 + 2) [.int .i64 p, .int .i64 s, .int .i64 c, .int .i64 d]).drew := by simp only [World.setCells, Nat.add_assoc, Nat.reduceAdd]
      have mixed : Try.prog.follows .mixedOrders = true := by kernel_rfl
      have hRh := Lib.hid hR0
      have hTh0 := Lib.hid hT0
      have hbh := Lib.hid hbW
      clear q1 fr hR0 hT0 hbW hB0 hr1 hBx
      go_region_o
      go_wp2
      clear hnest
      generalize (W0.setCells g (k * 6 + 2) [.int .i64 p, .int .i64 s, .int .i64 c, .int .i64 d]).drew = W5 at F0 F1 F2 F3 ⊢
      go_roundw
      case rel => exact ⟨k + 1, by omega, by go_num, F3, Lib.hid F0, Lib.hid F1, Lib.hid F2⟩
      case measure => simp [intOf]; omega
    · obtain rfl : k = Z.length := by omega
      have hA := (hR.out.congr (C := fun t => swpA (flipF Z t)) (fun t ht => by unfold ftF; rw [if_pos ht])).own hBg'.out hgr hTh.out
      rw [flip_mir] at hA
      have hA' := Lib.hid hA
      clear hA
      go_wp2
      go_ret2
      exact rowA_mk hc1.out.1 hc1.out.2 (Nat.le_refl _) hA'.out hb
end Go.Proofs.Ytdgkpghecfpgoaa
