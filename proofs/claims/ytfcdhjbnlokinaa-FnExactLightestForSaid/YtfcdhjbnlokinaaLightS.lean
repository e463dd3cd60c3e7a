/-
  The model's contract of the lightest plank for a piece.
-/
import Derived.Test.YtfcdhjbnlokinaaLightI
namespace Go.Proofs.Ytfcdhjbnlokinaa
open Go.ChangeShapes Go.WideShapes Go.ChangeAt Go.RowKit Go.Deep
set_option linter.unusedVariables false
set_option linter.unusedSimpArgs false
theorem dens_all {w wr : World} (hd : DrewOf w wr) {g o : Nat} {x : Plk} (hv : plkB x = true) (hr : w.rangeAt g o x.cells) : Hid (∀ n, Calls Try.prog 33 #[.pointer (some ⟨g, o, none⟩)] (wr.drewN n) fun e w'' => e = .returned (.int .i64 (denV x)) ∧ ∃ m, w'' = wr.drewN m) := Lib.hid (fun n => by
  obtain ⟨s, a, b, c, d, f⟩ := x
  exact (l03Density_any s a b c d f hv g o (wr.drewN n) (plkAt_of ((hd.more n).range hr))).mono fun e w' ⟨he, m, hm⟩ => ⟨he, n + m, by rw [hm, World.drewN_drewN]⟩)
theorem fits_all {w wr : World} (hd : DrewOf w wr) {g o : Nat} {x : Plk} (l v u : Int) (hr : w.rangeAt g o x.cells) : Hid (∀ n, Calls Try.prog 32 #[.pointer (some ⟨g, o, none⟩), .int .i64 l, .int .i64 v, .int .i64 u] (wr.drewN n) fun e w' => e = .returned (.bool (fitsB x l v u)) ∧ wr.drewN n = w') := Lib.hid (fun n => by
  obtain ⟨s, a, b, c, d, f⟩ := x
  exact l03Fits_any l v u s a b c d f g o (wr.drewN n) (plkAt_of ((hd.more n).range hr)))
set_option maxHeartbeats 6400000 in
set_option maxRecDepth 1000000 in
theorem specLightestFor_any (v0 : Value) (Z : List Plk) (l v u : Int) (w : World) (hn : Z.length ≤ 1048576) (hv : PlksAt w v0 Z) : Calls Try.prog 13 #[v0, .int .i64 l, .int .i64 v, .int .i64 u] w fun e w' => e = .returned (.tuple #[.int .i64 (lightN Z l v u), .int .i64 (lightC Z l v u)]) ∧ Below w.heap.size w w' := by
  have cO0 := l03Ok_any v0 Z w hn hv
  cases hp : plksB Z
  · obtain ⟨r1, r2⟩ := light_inv (l := l) (v := v) (u := u) hp
    have hr : Hid (lightN Z l v u = 0 ∧ lightC Z l v u = 1) := Lib.hid ⟨r1, r2⟩
    rw [hp] at cO0
    have cO := Lib.hid cO0
    clear cO0 hp r1 r2 hv
    go_enter Try.func13, Try.ntmps13
    go_wp2_with fail
    refine cO.out.mono ?_
    rintro e w1 ⟨rfl, b1⟩
    go_wp2
    go_ret2
    rw [hr.out.1, hr.out.2]
    exact ⟨rfl, b1.below⟩
  rw [hp] at cO0
  have cO := Lib.hid cO0
  clear cO0
  have cP0 := fun W => l03Piece_any l v u W
  cases hb : piB l v u
  · obtain ⟨r1, r2⟩ := light_rng hp hb
    have hr : Hid (lightN Z l v u = 0 ∧ lightC Z l v u = 2) := Lib.hid ⟨r1, r2⟩
    rw [show (inB l 1 2000 && inB v 1 2000 && inB u 1 2000) = false from hb] at cP0
    have cP := Lib.hid cP0
    clear cP0 hp hb r1 r2 hv
    go_enter Try.func13, Try.ntmps13
    go_wp2_with fail
    refine cO.out.mono ?_
    rintro e w1 ⟨rfl, b1⟩
    go_wp2_with (go_at_call 31; refine (cP.out _).mono ?_; rintro e w' ⟨rfl, rfl⟩)
    go_ret2
    rw [hr.out.1, hr.out.2]
    exact ⟨rfl, b1.below⟩
  rw [show (inB l 1 2000 && inB v 1 2000 && inB u 1 2000) = true from hb] at cP0
  have cP := Lib.hid cP0
  have hp' := Lib.hid hp
  have hb' := Lib.hid hb
  obtain ⟨ap, cap, rfl, hcap, hids, hread⟩ := hv
  have hread' := Lib.hid hread
  clear cP0 hp hb hread hids
  go_enter Try.func13, Try.ntmps13
  go_wp2_with fail
  refine cO.out.mono ?_
  rintro e w1 ⟨rfl, b1⟩
  go_wp2_with (go_at_call 31; refine (cP.out _).mono ?_; rintro e w' ⟨rfl, rfl⟩)
  go_loopw [10, 11] (fun s i wr => ∃ (k : Nat) (x : Int), k ≤ Z.length ∧ i = .int .i64 k ∧ s = .int .i64 x ∧ Hid (ltP Z l v u k = x) ∧ DrewOf w wr) (fun _ i _ => Z.length - (intOf i).toNat)
  case atStart => exact ⟨0, -1, by omega, rfl, rfl, Lib.hid rfl, b1⟩
  case round =>
    obtain ⟨k, x, hk, rfl, rfl, hs, hd⟩ := hrel
    by_cases hlt : k < Z.length
    · rcases hread'.out with h | ⟨g, o, rfl, hg, hc⟩
      · subst h; simp at hlt
      have hval := valid_at hp'.out hlt
      have cF0 := (fits_all hd l v u (hc k hlt)).out
      have cD := dens_all hd hval (hc k hlt)
      have hden := den_small hp'.out hlt
      have hstep : ltP Z l v u (k + 1) = if fitsB (atZ Z k) l v u = true ∧ (ltP Z l v u k < 0 ∨ denV (atZ Z k) < denV (atZ Z (ltP Z l v u k).toNat)) then (k : Int) else ltP Z l v u k := rfl
      rw [hs.out, atZ_get hlt] at hstep
      rw [atZ_get hlt] at hden
      have hlk := lt_link hp'.out l v u k hk
      rw [hs.out] at hlk
      have hg1 : (k : Int) < (Z.length : Int) := by omega
      obtain ⟨D, hD⟩ : ∃ D, D = denV Z[k] := ⟨_, rfl⟩
      rw [← hD] at cD hstep hden
      cases hf : fitsB Z[k] l v u
      · rw [hf] at cF0
        have cF := Lib.hid cF0
        have hn2 : Hid (ltP Z l v u (k + 1) = x) := Lib.hid (by rw [hstep, if_neg (fun h => by rw [hf] at h; exact absurd h.1 (by decide))])
        clear cF0 hf hstep hlk hval hc hden hD cD
        go_wp2
        go_quiet ((go_at_call 32; exact Qs (cF.out _)))
        go_wp2
        go_roundw
        case rel => exact ⟨k + 1, x, by omega, by go_num, rfl, hn2, hd.more _⟩
        case measure => simp [intOf]; omega
      rw [hf] at cF0
      have cF := Lib.hid cF0
      clear cF0
      by_cases hx : x < 0
      · have hn2 : Hid (ltP Z l v u (k + 1) = (k : Int)) := Lib.hid (by rw [hstep, if_pos ⟨hf, Or.inl hx⟩])
        have hx0 : decide (x < 0) = true := by simp; omega
        clear hf hstep hlk hval hc hden hD cD hx
        go_wp2
        go_quiet ((go_at_call 32; exact Qs (cF.out _)))
        go_wp2
        go_roundw
        case rel => exact ⟨k + 1, (k : Int), by omega, by go_num, rfl, hn2, hd.more _⟩
        case measure => simp [intOf]; omega
      obtain ⟨j, rfl⟩ := Int.eq_ofNat_of_zero_le (show 0 ≤ x by omega)
      have hjk : j < k := by
        rcases hlk with ⟨h1, _⟩ | ⟨_, h1, _⟩
        · exact absurd h1 hx
        · omega
      have hjl : j < Z.length := by omega
      have hvj := valid_at hp'.out hjl
      have cE := dens_all hd hvj (hc j hjl)
      have hdj := den_small hp'.out hjl
      rw [Int.toNat_natCast, atZ_get hjl] at hstep
      rw [atZ_get hjl] at hdj
      obtain ⟨E, hE⟩ : ∃ E, E = denV Z[j] := ⟨_, rfl⟩
      rw [← hE] at cE hstep hdj
      have hx0 : decide ((j : Int) < 0) = false := by simp
      have hg2 : (j : Int) < (Z.length : Int) := by omega
      by_cases hl : D < E
      · have hn2 : Hid (ltP Z l v u (k + 1) = (k : Int)) := Lib.hid (by rw [hstep, if_pos ⟨hf, Or.inr hl⟩])
        clear hf hstep hlk hval hvj hc hD hE hx
        go_wp2
        go_quiet ((first | (go_at_call 32; exact Qs (cF.out _)) | (go_at_call 33; first | (with_reducible exact cD.out _) | (with_reducible exact cE.out _))))
        go_wp2
        go_roundw
        case rel => exact ⟨k + 1, (k : Int), by omega, by go_num, rfl, hn2, hd.more _⟩
        case measure => simp [intOf]; omega
      · have hn2 : Hid (ltP Z l v u (k + 1) = (j : Int)) := Lib.hid (by rw [hstep, if_neg (by rintro ⟨_, h | h⟩; exact hx h; exact hl h)])
        clear hf hstep hlk hval hvj hc hD hE hx
        go_wp2
        go_quiet ((first | (go_at_call 32; exact Qs (cF.out _)) | (go_at_call 33; first | (with_reducible exact cD.out _) | (with_reducible exact cE.out _))))
        go_wp2
        go_roundw
        case rel => exact ⟨k + 1, (j : Int), by omega, by go_num, rfl, hn2, hd.more _⟩
        case measure => simp [intOf]; omega
    · have hks : k = Z.length := by omega
      by_cases hx : x < 0
      · obtain ⟨r1, r2⟩ := light_no hp'.out hb'.out (by rw [← hks, hs.out]; exact hx)
        have hr : Hid (lightN Z l v u = 0 ∧ lightC Z l v u = 3) := Lib.hid ⟨r1, r2⟩
        clear r1 r2 hks
        go_wp2
        go_ret2
        rw [hr.out.1, hr.out.2]
        exact ⟨rfl, hd.below⟩
      · obtain ⟨r1, r2⟩ := light_yes hp'.out hb'.out (by rw [← hks, hs.out]; omega)
        have hr : Hid (lightN Z l v u = x ∧ lightC Z l v u = 0) := Lib.hid ⟨by rw [r1, ← hks, hs.out], r2⟩
        have hx0 : decide (x < 0) = false := by simp; omega
        clear r1 r2 hks
        go_wp2
        go_ret2
        rw [hr.out.1, hr.out.2]
        exact ⟨rfl, hd.below⟩
end Go.Proofs.Ytfcdhjbnlokinaa
