/-
  The program's contract of the lightest plank for a piece.
-/
import Derived.Test.YtfcdhjbnlokinaaLight
namespace Go.Proofs.Ytfcdhjbnlokinaa
open Go.ChangeShapes Go.WideShapes Go.ChangeAt Go.RowKit Go.Deep
set_option linter.unusedVariables false
set_option linter.unusedSimpArgs false
theorem pce_box (l v u : Int) (w : World) : PceAt (w.alloc (.cells #[.int .i64 l, .int .i64 v, .int .i64 u] 58)) w.heap.size l v u := ⟨cellB (heap_alloc_new _ _) 0 _ rfl, cellB (heap_alloc_new _ _) 1 _ rfl, cellB (heap_alloc_new _ _) 2 _ rfl⟩
set_option maxHeartbeats 6400000 in
set_option maxRecDepth 1000000 in
theorem implLightestFor_any (v0 : Value) (Z : List Plk) (l v u : Int) (w : World) (hn : Z.length ≤ 1048576) (hv : PlksAt w v0 Z) : Calls Try.prog 14 #[v0, .int .i64 l, .int .i64 v, .int .i64 u] w fun e w' => e = .returned (.tuple #[.int .i64 (lightN Z l v u), .int .i64 (lightC Z l v u)]) ∧ Below w.heap.size w w' := by
  have hf0 : Below w.heap.size w (w.alloc (.cells #[.int .i64 l, .int .i64 v, .int .i64 u] 58)) := (Below.refl _ _).alloc (Nat.le_refl _) _
  have hq0 := Lib.hid (pce_box l v u w)
  have hq0l : Hid (w.heap.size < (w.alloc (.cells #[.int .i64 l, .int .i64 v, .int .i64 u] 58)).heap.size) := Lib.hid (by simp)
  have hv' := Lib.hid hv
  have cV0 : ∀ W, PlksAt W v0 Z → Calls Try.prog 11 #[v0] W fun e w' => e = .returned (.bool (plksB Z)) ∧ Below W.heap.size W w' := fun W h => implValidPlanks_any v0 Z W hn h
  clear hv
  cases hp : plksB Z
  · obtain ⟨r1, r2⟩ := light_inv (l := l) (v := v) (u := u) hp
    have hr : Hid (lightN Z l v u = 0 ∧ lightC Z l v u = 1) := Lib.hid ⟨r1, r2⟩
    rw [hp] at cV0
    have cV := Lib.hid cV0
    clear cV0 hp r1 r2
    go_enter Try.func14, Try.ntmps14
    go_wp2_with fail
    refine (cV.out _ (hv'.out.below hf0)).mono ?_
    rintro e w1 ⟨rfl, b1⟩
    have B1 := hf0.trans (b1.mono hf0.size)
    have q1 := hq0.out.below hq0l.out b1
    have hg1 : w.heap.size < w1.heap.size := Nat.lt_of_lt_of_le hq0l.out b1.size
    clear b1 hf0
    obtain ⟨e0, e1, e2⟩ := q1
    go_wp2
    go_ret2
    rw [hr.out.1, hr.out.2]
    exact ⟨rfl, B1⟩
  rw [hp] at cV0
  have cV := Lib.hid cV0
  clear cV0
  cases hb : piB l v u
  · obtain ⟨r1, r2⟩ := light_rng hp hb
    have hr : Hid (lightN Z l v u = 0 ∧ lightC Z l v u = 2) := Lib.hid ⟨r1, r2⟩
    have cP : Hid (∀ W, Calls Try.prog 34 #[.agg #[.int .i64 l, .int .i64 v, .int .i64 u]] W fun e w' => e = .returned (.bool false) ∧ Below W.heap.size W w') := Lib.hid (fun W => by have := isPiece_any l v u W; rw [show (inB l 1 2000 && inB v 1 2000 && inB u 1 2000) = false from hb] at this; exact this)
    clear hp hb r1 r2
    go_enter Try.func14, Try.ntmps14
    go_wp2_with fail
    refine (cV.out _ (hv'.out.below hf0)).mono ?_
    rintro e w1 ⟨rfl, b1⟩
    have B1 := hf0.trans (b1.mono hf0.size)
    have q1 := hq0.out.below hq0l.out b1
    have hg1 : w.heap.size < w1.heap.size := Nat.lt_of_lt_of_le hq0l.out b1.size
    clear b1 hf0
    obtain ⟨e0, e1, e2⟩ := q1
    go_wp2_with fail
    refine (cP.out _).mono ?_
    rintro e w2 ⟨rfl, b2⟩
    go_wp2
    go_ret2
    rw [hr.out.1, hr.out.2]
    exact ⟨rfl, B1.trans (b2.mono B1.size)⟩
  have cP : Hid (∀ W, Calls Try.prog 34 #[.agg #[.int .i64 l, .int .i64 v, .int .i64 u]] W fun e w' => e = .returned (.bool true) ∧ Below W.heap.size W w') := Lib.hid (fun W => by have := isPiece_any l v u W; rw [show (inB l 1 2000 && inB v 1 2000 && inB u 1 2000) = true from hb] at this; exact this)
  have hp' := Lib.hid hp
  have hb' := Lib.hid hb
  have hvp := Lib.hid (hv'.out)
  obtain ⟨ap, cap, rfl, hcap, hids, hread⟩ := hv'.out
  have hread' := Lib.hid hread
  clear hp hb hread hids
  go_enter Try.func14, Try.ntmps14
  go_wp2_with fail
  refine (cV.out _ (hv'.out.below hf0)).mono ?_
  rintro e w1 ⟨rfl, b1⟩
  have B1 := hf0.trans (b1.mono hf0.size)
  have q1 := hq0.out.below hq0l.out b1
  have hg1 : w.heap.size < w1.heap.size := Nat.lt_of_lt_of_le hq0l.out b1.size
  clear b1 hf0
  obtain ⟨e0, e1, e2⟩ := q1
  go_wp2_with fail
  refine (cP.out _).mono ?_
  rintro e w2 ⟨rfl, b2⟩
  have B2 := B1.trans (b2.mono B1.size)
  have q2 : PceAt w2 w.heap.size l v u := PceAt.below ⟨e0, e1, e2⟩ hg1 b2
  have hg2 : w.heap.size < w2.heap.size := Nat.lt_of_lt_of_le hg1 b2.size
  clear b2 B1 hg1 e0 e1 e2
  go_wp2
  go_loopw [11, 12, 29] (fun s t i wr => ∃ (k : Nat) (x d : Int), k ≤ Z.length ∧ i = .int .i64 k ∧ s = .int .i64 x ∧ t = .int .i64 d ∧ Hid (ltS Z l v u k = (x, d)) ∧ Below w.heap.size w wr ∧ PceAt wr w.heap.size l v u ∧ w.heap.size < wr.heap.size) (fun _ _ i _ => Z.length - (intOf i).toNat)
  case atStart => exact ⟨0, 0, 9223372036854775807, by omega, rfl, rfl, rfl, Lib.hid rfl, B2, q2, hg2⟩
  case round =>
    obtain ⟨k, x, d0, hk, rfl, rfl, rfl, hs, hbw, hpc, hgw⟩ := hrel
    by_cases hlt : k < Z.length
    · rcases hread'.out with h | ⟨g, o, rfl, hg, hc⟩
      · subst h; simp at hlt
      have hr := range_below (hc k hlt) hg hbw
      have hval := valid_at hp'.out hlt
      have hbd := ltS_bd hp'.out l v u (k := k) hk
      rw [hs.out] at hbd
      have hbd' : 0 ≤ x ∧ x ≤ Z.length ∧ 0 ≤ d0 ∧ d0 ≤ 9223372036854775807 := hbd
      have hden := den_small hp'.out hlt
      have hstep : ltS Z l v u (k + 1) = if fitsB (atZ Z k) l v u = true ∧ denV (atZ Z k) < (ltS Z l v u k).2 then ((k : Int), denV (atZ Z k)) else ltS Z l v u k := rfl
      rw [hs.out] at hstep
      rw [atZ_get hlt] at hstep hden
      have hstep' : ltS Z l v u (k + 1) = if fitsB Z[k] l v u = true ∧ denV Z[k] < d0 then ((k : Int), denV Z[k]) else (x, d0) := hstep
      obtain ⟨y, hy⟩ : ∃ y, y = Z[k] := ⟨_, rfl⟩
      rw [← hy] at hr hval hstep' hden
      clear hy hc hstep hbd
      obtain ⟨s, a, b, c, d, f⟩ := y
      have hr0 : wr.rangeAt g (o + k * 6) [.string s, .int .i64 a, .int .i64 b, .int .i64 c, .int .i64 d, .int .i64 f] := hr
      clear hr
      have hr := hr0
      clear hr0
      obtain ⟨D, hD⟩ : ∃ D, D = denV ⟨s, a, b, c, d, f⟩ := ⟨_, rfl⟩
      have cD0 := fun W => density_any s a b c d f hval W
      rw [← hD] at cD0 hstep' hden
      have cD := Lib.hid cD0
      have cF0 := fun W => fitsInto_any l v u s a b c d f W
      have hP0 := Lib.hid (plk_box s a b c d f wr)
      have hA0 : Below wr.heap.size wr (wr.alloc (.cells #[.string s, .int .i64 a, .int .i64 b, .int .i64 c, .int .i64 d, .int .i64 f] 47)) := (Below.refl _ _).alloc (Nat.le_refl _) _
      have hA0' := Lib.hid hA0
      have hGl : Hid (wr.heap.size < (wr.alloc (.cells #[.string s, .int .i64 a, .int .i64 b, .int .i64 c, .int .i64 d, .int .i64 f] 47)).heap.size) := Lib.hid (by simp)
      have hst := Lib.hid hstep'
      clear hD cD0 hA0 hstep' hval
      cases hf : fitsB ⟨s, a, b, c, d, f⟩ l v u
      · rw [hf] at cF0
        have cF := Lib.hid cF0
        have hn2 : Hid (ltS Z l v u (k + 1) = (x, d0)) := Lib.hid (by rw [hst.out, if_neg (fun h => by rw [hf] at h; exact absurd h.1 (by decide))])
        clear cF0 hf
        obtain ⟨p0, p1, p2⟩ := hpc
        go_wp2_with (first | (refine wpList_load_mid rfl _ _ rfl g (o + k * 6) rfl _ _ hr Try.underlying47 rfl rfl ?_))
        refine (cF.out _).mono ?_
        rintro e w3 ⟨rfl, b3⟩
        have P3 := hP0.out.below hGl.out b3
        have C3 := PceAt.below (PceAt.below ⟨p0, p1, p2⟩ hgw hA0'.out) (Nat.lt_of_lt_of_le hgw hA0'.out.size) b3
        have hG3 : wr.heap.size < w3.heap.size := Nat.lt_of_lt_of_le hGl.out b3.size
        have BW3 := hbw.trans ((hA0'.out.trans (b3.mono hA0'.out.size)).mono hbw.size)
        have hgw3 : w.heap.size < w3.heap.size := Nat.lt_trans hgw hG3
        clear b3 p0 p1 p2 hr
        go_wp2
        go_roundw
        case rel => exact ⟨k + 1, x, d0, by omega, by go_num, rfl, rfl, hn2, BW3, C3, hgw3⟩
        case measure => simp [intOf]; omega
      rw [hf] at cF0
      have cF := Lib.hid cF0
      clear cF0
      by_cases hl : D < d0
      rotate_left
      · have hn2 : Hid (ltS Z l v u (k + 1) = (x, d0)) := Lib.hid (by rw [hst.out, if_neg (fun h => hl h.2)])
        clear hf
        obtain ⟨p0, p1, p2⟩ := hpc
        go_wp2_with (first | (refine wpList_load_mid rfl _ _ rfl g (o + k * 6) rfl _ _ hr Try.underlying47 rfl rfl ?_))
        refine (cF.out _).mono ?_
        rintro e w3 ⟨rfl, b3⟩
        have P3 := hP0.out.below hGl.out b3
        have C3 := PceAt.below (PceAt.below ⟨p0, p1, p2⟩ hgw hA0'.out) (Nat.lt_of_lt_of_le hgw hA0'.out.size) b3
        have hG3 : wr.heap.size < w3.heap.size := Nat.lt_of_lt_of_le hGl.out b3.size
        have BW3 := hbw.trans ((hA0'.out.trans (b3.mono hA0'.out.size)).mono hbw.size)
        have hgw3 : w.heap.size < w3.heap.size := Nat.lt_trans hgw hG3
        clear b3 p0 p1 p2 hr
        obtain ⟨c0, c1, c2, c3, c4, c5⟩ := plk_facts P3
        go_wp2_with fail
        refine (cD.out _).mono ?_
        rintro e w4 ⟨rfl, b4⟩
        have C4 := C3.below hgw3 b4
        have BW4 := BW3.trans (b4.mono BW3.size)
        have hgw4 : w.heap.size < w4.heap.size := Nat.lt_of_lt_of_le hgw3 b4.size
        clear c0 c1 c2 c3 c4 c5 b4 P3
        go_wp2
        go_roundw
        case rel => exact ⟨k + 1, x, d0, by omega, by go_num, rfl, rfl, hn2, BW4, C4, hgw4⟩
        case measure => simp [intOf]; omega
      have hn2 : Hid (ltS Z l v u (k + 1) = ((k : Int), D)) := Lib.hid (by rw [hst.out, if_pos ⟨hf, hl⟩])
      clear hf
      obtain ⟨p0, p1, p2⟩ := hpc
      go_wp2_with (first | (refine wpList_load_mid rfl _ _ rfl g (o + k * 6) rfl _ _ hr Try.underlying47 rfl rfl ?_))
      refine (cF.out _).mono ?_
      rintro e w3 ⟨rfl, b3⟩
      have P3 := hP0.out.below hGl.out b3
      have C3 := PceAt.below (PceAt.below ⟨p0, p1, p2⟩ hgw hA0'.out) (Nat.lt_of_lt_of_le hgw hA0'.out.size) b3
      have hG3 : wr.heap.size < w3.heap.size := Nat.lt_of_lt_of_le hGl.out b3.size
      have BW3 := hbw.trans ((hA0'.out.trans (b3.mono hA0'.out.size)).mono hbw.size)
      have hgw3 : w.heap.size < w3.heap.size := Nat.lt_trans hgw hG3
      clear b3 p0 p1 p2 hr
      obtain ⟨c0, c1, c2, c3, c4, c5⟩ := plk_facts P3
      go_wp2_with fail
      refine (cD.out _).mono ?_
      rintro e w4 ⟨rfl, b4⟩
      have C4 := C3.below hgw3 b4
      have BW4 := BW3.trans (b4.mono BW3.size)
      have hgw4 : w.heap.size < w4.heap.size := Nat.lt_of_lt_of_le hgw3 b4.size
      have P4 := P3.below hG3 b4
      clear c0 c1 c2 c3 c4 c5 b4 P3
      obtain ⟨c0, c1, c2, c3, c4, c5⟩ := plk_facts P4
      go_wp2_with fail
      refine (cD.out _).mono ?_
      rintro e w5 ⟨rfl, b5⟩
      have C5 := C4.below hgw4 b5
      have BW5 := BW4.trans (b5.mono BW4.size)
      have hgw5 : w.heap.size < w5.heap.size := Nat.lt_of_lt_of_le hgw4 b5.size
      clear c0 c1 c2 c3 c4 c5 b5 P4
      go_wp2
      go_roundw
      case rel => exact ⟨k + 1, (k : Int), D, by omega, by go_num, rfl, rfl, hn2, BW5, C5, hgw5⟩
      case measure => simp [intOf]; omega
    · have hks : k = Z.length := by omega
      rcases lt_link hp'.out l v u k hk with ⟨h1, h2⟩ | ⟨h1, h2, h3⟩
      · obtain ⟨r1, r2⟩ := light_no hp'.out hb'.out (by rw [← hks]; exact h1)
        have hr : Hid (lightN Z l v u = 0 ∧ lightC Z l v u = 3) := Lib.hid ⟨r1, r2⟩
        have he := hs.out.symm.trans h2
        obtain ⟨rfl, rfl⟩ : x = 0 ∧ d0 = 9223372036854775807 := by injection he with h4 h5; exact ⟨h4, h5⟩
        clear h1 h2 he r1 r2 hks
        go_wp2
        go_ret2
        rw [hr.out.1, hr.out.2]
        exact ⟨rfl, hbw⟩
      · obtain ⟨r1, r2⟩ := light_yes hp'.out hb'.out (by rw [← hks]; exact h1)
        have he := hs.out.symm.trans h3
        have hx : x = ltP Z l v u k := by injection he
        have hd : d0 = denV (atZ Z (ltP Z l v u k).toNat) := by injection he
        have hdn := den_small hp'.out (k := (ltP Z l v u k).toNat) (by omega)
        rw [← hd] at hdn
        have t0 : (d0 == 9223372036854775807) = false := by rw [beq_eq_false_iff_ne]; omega
        have hr : Hid (lightN Z l v u = x ∧ lightC Z l v u = 0) := Lib.hid ⟨by rw [r1, ← hks, hx], r2⟩
        clear h1 h2 h3 he r1 r2 hks hx hd
        go_wp2
        go_ret2
        rw [hr.out.1, hr.out.2]
        exact ⟨rfl, hbw⟩
end Go.Proofs.Ytfcdhjbnlokinaa
