/-
  Heights of a line: the program's heightsBetween, and HeightsAlong on both sides.
-/
import Derived.Test.YtcdpkbcpglaiaaaRowC
import Derived.Test.YtcdpkbcpglaiaaaNckIn
import Derived.Test.YtcdpkbcpglaiaaaCore2
import Derived.OwnWalk
namespace Go.Proofs.Ytcdpkbcpglaiaaa
open Go.ChangeShapes Go.WideShapes Go.ChangeAt Go.RowKit Go.Deep
set_option linter.unusedVariables false
set_option linter.unusedSimpArgs false
set_option maxRecDepth 1000000
/-- the heights of a line at the ends of so many equal parts -/
def hbL (f t : Int) (n k : Nat) : List Int := (List.range k).map (fun (i : Nat) => lineR 0 f (n : Int) t (i : Int))
theorem hbL_succ (f t : Int) (n k : Nat) : hbL f t n (k + 1) = hbL f t n k ++ [lineR 0 f (n : Int) t (k : Int)] := by unfold hbL; rw [List.range_succ, List.map_append]; rfl
theorem hbL_len (f t : Int) (n k : Nat) : (hbL f t n k).length = k := by simp [hbL]
theorem hbL_get (f t : Int) (n m k : Nat) (h : k < m) : (hbL f t n m)[k]'(by rw [hbL_len]; exact h) = lineR 0 f (n : Int) t (k : Int) := by simp [hbL]
def halOk (f t n : Int) : Bool := (inB f 0 2000 && inB t 0 2000) && inB n 1 24
def halC (f t n : Int) : Int := if halOk f t n = true then 0 else 2
def halV (f t n : Int) : List Int := if halOk f t n = true then hbL f t n.toNat (n.toNat + 1) else []
theorem hal_bad {f t n : Int} (h : halOk f t n = false) : halV f t n = [] ∧ halC f t n = 2 := by unfold halV halC; rw [h]; exact ⟨rfl, rfl⟩
theorem hal_good {f t n : Int} (h : halOk f t n = true) : halV f t n = hbL f t n.toNat (n.toNat + 1) ∧ halC f t n = 0 := by unfold halV halC; rw [h]; exact ⟨rfl, rfl⟩
theorem line_hal {f t : Int} {n k : Nat} (hf : 0 ≤ f ∧ f ≤ 10000) (ht : 0 ≤ t ∧ t ≤ 10000) (hn : 1 ≤ n ∧ n ≤ 24) (hk : k ≤ n) : -1000000 ≤ lineR 0 f (n : Int) t (k : Int) ∧ lineR 0 f (n : Int) t (k : Int) ≤ 1000000 := by
  unfold lineR
  split
  · omega
  · split
    · omega
    · split
      · omega
      · have h1 := mul_bd (a := t - f) (b := (k : Int) - 0) (B := 10000) (C := 25) (by omega) (by omega) (by omega) (by omega) (by omega)
        have h2 := rnd_bd ((t - f) * ((k : Int) - 0)) ((n : Int) - 0) (by omega)
        omega
theorem halV_in {f t n : Int} : (∀ x ∈ halV f t n, inI x) ∧ (halV f t n).length ≤ 25 := by
  cases h : halOk f t n
  · rw [(hal_bad h).1]; exact ⟨fun x hx => (by cases hx), by simp⟩
  · rw [(hal_good h).1, hbL_len]
    unfold halOk at h
    rw [Bool.and_eq_true, Bool.and_eq_true, inB_iff, inB_iff, inB_iff] at h
    refine ⟨fun x hx => ?_, by omega⟩
    obtain ⟨i, hi, rfl⟩ := List.mem_map.1 hx
    have := line_hal (f := f) (t := t) (n := n.toNat) (k := i) (by omega) (by omega) (by omega) (by have := List.mem_range.1 hi; omega)
    unfold inI; omega
set_option maxHeartbeats 3200000 in
theorem heightsBetween_any (f t : Int) (N : Nat) (hf : 0 ≤ f ∧ f ≤ 10000) (ht : 0 ≤ t ∧ t ≤ 10000) (hNb : 1 ≤ N ∧ N ≤ 24) (w : World) : Calls Try.prog 29 #[.int .i64 f, .int .i64 t, .int .i64 N] w (RowN (hbL f t N (N + 1)) w) := by
  obtain ⟨i0, hi, hz0, hz1, hz2⟩ := info_parts infoI
  obtain ⟨M, hM⟩ : ∃ M, M = N + 1 := ⟨_, rfl⟩
  have hMI : (N : Int) + 1 = (M : Int) := by omega
  have e0 : IntKind.i64.wrap ((N : Int) + 1) = (M : Int) := by rw [hMI]; exact IntWalk.i64_in _ (by omega)
  have hMb : M ≤ 25 := by omega
  obtain ⟨Z, hZ⟩ : ∃ Z, Z = hbL f t N (N + 1) := ⟨_, rfl⟩
  have hZl : Z.length = M := by rw [hZ, hbL_len, hM]
  have hZg : Hid (∀ k (h : k < Z.length), Z[k] = lineR 0 f (N : Int) t (k : Int)) := Lib.hid (fun k h => by subst hZ; exact hbL_get f t N (N + 1) k (by omega))
  rw [← hZ]
  have hM' := Lib.hid hM
  clear hZ hMI hM
  go_enter Try.func29, Try.ntmps29
  go_wp2_with (at_make; refine wpList_make_full _ rfl _ _ 34 rfl w.heap.size 2 i0 (.int .i64 0) 1 Try.underlying34 hi hz0 hz1 .i64 .i64 _ _ M rfl rfl rfl rfl ?b1 ?b2 ?b3 ?_)
  case b1 => rw [hz2]; omega
  case b2 => unfold maxLen; omega
  case b3 => exact Nat.le_refl _
  intro w1 hown hgr
  rw [toList_madeCells_one, ← hZl, ← fillI_zero] at hown
  have hb1 : Hid (Below w.heap.size w w1) := Lib.hid ((Below.refl _ _).grown hgr (Nat.le_refl _) (fun k hk => by cases hk))
  clear hgr
  rw [hZl] at hown
  go_wp2
  go_loopw [14] (fun i wr => ∃ k : Nat, k ≤ M ∧ i = .int .i64 k ∧ wr.ownsRow w.heap.size 2 1 (.slice (some ⟨w.heap.size, 0, none⟩) M M) M (fillI Z k) ∧ Hid (Below w.heap.size w wr)) (fun i _ => M - (intOf i).toNat)
  case atStart => exact ⟨0, by omega, rfl, hown, hb1⟩
  case round =>
    obtain ⟨k, hk, rfl, ho, hbel⟩ := hrel
    have hM := hM'.out
    by_cases hlt : k < M
    · have hltI : (k : Int) < (M : Int) := by omega
      have hzk := hZg.out k (by omega)
      have cL0 := fun W => onLine_any 0 f (N : Int) t (k : Int) (by omega) (by omega) (by omega) (by omega) (by omega) (by omega) (by omega) (by omega) W
      obtain ⟨z, hz⟩ : ∃ z, z = lineR 0 f (N : Int) t (k : Int) := ⟨_, rfl⟩
      rw [← hz] at cL0 hzk
      have cL := Lib.hid cL0
      have hzk' := Lib.hid hzk
      have ho' := Lib.hid ho
      clear hz cL0 hzk ho hM
      go_wp2_with (go_at_call 40; (with_reducible refine (cL.out _).mono ?_); rintro e w2 ⟨rfl, hd⟩; have ho2 : w2.ownsRow w.heap.size 2 1 (.slice (some ⟨w.heap.size, 0, none⟩) M M) M (fillI Z k) := (by obtain ⟨m, rfl⟩ := hd; exact ho'.out); have hb2 : Hid (Below w.heap.size w w2) := (by obtain ⟨m, rfl⟩ := hd; exact Lib.hid (belowN hbel.out m)); obtain ⟨old, hold⟩ : ∃ old, (fillI Z k)[k]? = some old := ⟨_, List.getElem?_eq_getElem (by rw [fillI_len _ _ (by omega)]; omega)⟩; have hco := (ho2.cellAt k (by omega)).trans hold; have hfo := ho2.frozenAt k; have hst := ho2.stored k (.int .i64 z); rw [← hzk'.out, fillI_set Z k (by omega), hzk'.out] at hst; have hst' := Lib.hid hst; clear hst ho2 hold hd)
      go_roundw
      case rel => exact ⟨k + 1, by omega, by go_num, hst'.out.1, Lib.hid (hb2.out.grown hst'.out.2 hb2.out.size (fun j hj => by cases hj; exact Nat.le_refl _))⟩
      case measure => simp [intOf]; omega
    · have hks : k = M := by omega
      have ho2 : Hid (wr.ownsRow w.heap.size 2 1 (.slice (some ⟨w.heap.size, 0, none⟩) M M) Z.length (Z.map encI)) := Lib.hid (by have h2 := ho; rw [hks, ← hZl, fillI_all] at h2; rw [hZl] at h2 ⊢; exact h2)
      clear hks ho
      go_wp2
      go_ret
      exact rowN_mk rfl (Nat.le_refl _) ho2.out hbel.out
set_option maxHeartbeats 3200000 in
theorem implHeightsAlong_any (f t n : Int) (w : World) : Calls Try.prog 14 #[.int .i64 f, .int .i64 t, .int .i64 n] w (RowC (halV f t n) (halC f t n) w) := by
  obtain ⟨i0, hi, hz0, hz1, hz2⟩ := info_parts infoI
  cases h1 : inB f 0 2000
  · have hr := Lib.hid (hal_bad (show halOk f t n = false by unfold halOk; rw [h1]; rfl))
    go_enter Try.func14, Try.ntmps14
    go_wp2_with (first
          | (go_at_call 23; refine (isNeckHeight_any _ _).mono ?_; rintro e w' ⟨rfl, rfl⟩)
          | (go_at_call 24; refine (within64_any _ _ _ _).mono ?_; rintro e w' ⟨rfl, rfl⟩))
    go_ret2
    exact rowC_nil hr.out.1 hr.out.2 (Below.refl _ _)
  cases h2 : inB t 0 2000
  · have hr := Lib.hid (hal_bad (show halOk f t n = false by unfold halOk; rw [h1, h2]; rfl))
    go_enter Try.func14, Try.ntmps14
    go_wp2_with (first
          | (go_at_call 23; refine (isNeckHeight_any _ _).mono ?_; rintro e w' ⟨rfl, rfl⟩)
          | (go_at_call 24; refine (within64_any _ _ _ _).mono ?_; rintro e w' ⟨rfl, rfl⟩))
    go_ret2
    exact rowC_nil hr.out.1 hr.out.2 (Below.refl _ _)
  cases h3 : inB n 1 24
  · have hr := Lib.hid (hal_bad (show halOk f t n = false by unfold halOk; rw [h1, h2, h3]; rfl))
    go_enter Try.func14, Try.ntmps14
    go_wp2_with (first
          | (go_at_call 23; refine (isNeckHeight_any _ _).mono ?_; rintro e w' ⟨rfl, rfl⟩)
          | (go_at_call 24; refine (within64_any _ _ _ _).mono ?_; rintro e w' ⟨rfl, rfl⟩))
    go_ret2
    exact rowC_nil hr.out.1 hr.out.2 (Below.refl _ _)
  have hr := Lib.hid (hal_good (show halOk f t n = true by unfold halOk; rw [h1, h2, h3]; rfl))
  have hf := inB_iff.1 h1
  have ht := inB_iff.1 h2
  have hn := inB_iff.1 h3
  obtain ⟨N, rfl⟩ : ∃ N : Nat, n = (N : Int) := ⟨n.toNat, by omega⟩
  have hN : (N : Int).toNat = N := by omega
  rw [hN] at hr
  have hNb : 1 ≤ N ∧ N ≤ 24 := by omega
  have cB := Lib.hid (fun W => heightsBetween_any f t N ⟨hf.1, by omega⟩ ⟨ht.1, by omega⟩ hNb W)
  go_enter Try.func14, Try.ntmps14
  go_wp2_with (first
        | (go_at_call 23; refine (isNeckHeight_any _ _).mono ?_; rintro e w' ⟨rfl, rfl⟩)
        | (go_at_call 24; refine (within64_any _ _ _ _).mono ?_; rintro e w' ⟨rfl, rfl⟩)
        | (go_at_call 29; (with_reducible refine (cB.out _).mono ?_); rintro e w3 ⟨v3, rfl, o3, b3⟩))
  go_ret2
  exact rowC_mk hr.out.1 hr.out.2 (Nat.le_refl _) o3 b3
end Go.Proofs.Ytcdpkbcpglaiaaa
