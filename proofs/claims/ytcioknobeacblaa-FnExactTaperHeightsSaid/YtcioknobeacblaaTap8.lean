/-
  Heights from one to another: the program's and the model's contracts.
-/
import Derived.Test.YtcioknobeacblaaRowC
import Derived.Test.YtcioknobeacblaaRibIn
import Derived.Test.YtcioknobeacblaaCore2
import Derived.OwnWalk
namespace Go.Proofs.Ytcioknobeacblaa
open Go.ChangeShapes Go.WideShapes Go.ChangeAt Go.RowKit Go.Deep
set_option linter.unusedVariables false
set_option linter.unusedSimpArgs false
set_option maxRecDepth 1000000
def hbL (f t : Int) (n k : Nat) : List Int := (List.range k).map (fun (i : Nat) => lineR 0 f (n : Int) t (i : Int))
theorem hbL_succ (f t : Int) (n k : Nat) : hbL f t n (k + 1) = hbL f t n k ++ [lineR 0 f (n : Int) t (k : Int)] := by unfold hbL; rw [List.range_succ, List.map_append]; rfl
theorem hbL_len (f t : Int) (n k : Nat) : (hbL f t n k).length = k := by simp [hbL]
theorem hbL_get (f t : Int) (n m k : Nat) (h : k < m) : (hbL f t n m)[k]'(by rw [hbL_len]; exact h) = lineR 0 f (n : Int) t (k : Int) := by simp [hbL]
theorem line_hal {f t : Int} {n k : Nat} (hf : 0 ≤ f ∧ f ≤ 10000) (ht : 0 ≤ t ∧ t ≤ 10000) (hn : 1 ≤ n ∧ n ≤ 24) (hk : k ≤ n) : -1000000 ≤ lineR 0 f (n : Int) t (k : Int) ∧ lineR 0 f (n : Int) t (k : Int) ≤ 1000000 := by
  unfold lineR
  split
  · omega
  · split
    · omega
    · split
      · omega
      · have h1 := mul_bd (a := t - f) (b := (k : Int) - 0) (B := 10000) (C := 25) (by omega) (by omega) (by omega) (by omega) (by omega)
        have h2 := rnd_bd ((t - f) * ((k : Int) - 0)) ((n : Int) - 0) (by omega)
        omega
set_option maxHeartbeats 3200000 in
theorem heightsBetween_any (f t : Int) (N : Nat) (hf : 0 ≤ f ∧ f ≤ 10000) (ht : 0 ≤ t ∧ t ≤ 10000) (hNb : 1 ≤ N ∧ N ≤ 24) (w : World) : Calls Try.prog 14 #[.int .i64 f, .int .i64 t, .int .i64 N] w (RowN (hbL f t N (N + 1)) w) := by
  obtain ⟨i0, hi, hz0, hz1, hz2⟩ := info_parts infoI
  obtain ⟨M, hM⟩ : ∃ M, M = N + 1 := ⟨_, rfl⟩
  have hMI : (N : Int) + 1 = (M : Int) := by omega
  have e0 : IntKind.i64.wrap ((N : Int) + 1) = (M : Int) := by rw [hMI]; exact IntWalk.i64_in _ (by omega)
  have hMb : M ≤ 25 := by omega
  obtain ⟨Z, hZ⟩ : ∃ Z, Z = hbL f t N (N + 1) := ⟨_, rfl⟩
  have hZl : Z.length = M := by rw [hZ, hbL_len, hM]
  have hZg : Hid (∀ k (h : k < Z.length), Z[k] = lineR 0 f (N : Int) t (k : Int)) := Lib.hid (fun k h => by subst hZ; exact hbL_get f t N (N + 1) k (by omega))
  rw [← hZ]
  have hM' := Lib.hid hM
  clear hZ hMI hM
  go_enter Try.func14, Try.ntmps14
  go_wp2_with (at_make; refine wpList_make_full _ rfl _ _ 22 rfl w.heap.size 2 i0 (.int .i64 0) 1 Try.underlying22 hi hz0 hz1 .i64 .i64 _ _ M rfl rfl rfl rfl ?b1 ?b2 ?b3 ?_)
  case b1 => rw [hz2]; omega
  case b2 => unfold maxLen; omega
  case b3 => exact Nat.le_refl _
  intro w1 hown hgr
  rw [toList_madeCells_one, ← hZl, ← fillI_zero] at hown
  have hb1 : Hid (Below w.heap.size w w1) := Lib.hid ((Below.refl _ _).grown hgr (Nat.le_refl _) (fun k hk => by cases hk))
  clear hgr
  rw [hZl] at hown
  go_wp2
  go_loopw [14] (fun i wr => ∃ k : Nat, k ≤ M ∧ i = .int .i64 k ∧ wr.ownsRow w.heap.size 2 1 (.slice (some ⟨w.heap.size, 0, none⟩) M M) M (fillI Z k) ∧ Hid (Below w.heap.size w wr)) (fun i _ => M - (intOf i).toNat)
  case atStart => exact ⟨0, by omega, rfl, hown, hb1⟩
  case round =>
    obtain ⟨k, hk, rfl, ho, hbel⟩ := hrel
    have hM := hM'.out
    by_cases hlt : k < M
    · have hltI : (k : Int) < (M : Int) := by omega
      have hzk := hZg.out k (by omega)
      have cL0 := fun W => onLine_any 0 f (N : Int) t (k : Int) (by omega) (by omega) (by omega) (by omega) (by omega) (by omega) (by omega) (by omega) W
      obtain ⟨z, hz⟩ : ∃ z, z = lineR 0 f (N : Int) t (k : Int) := ⟨_, rfl⟩
      rw [← hz] at cL0 hzk
      have cL := Lib.hid cL0
      have hzk' := Lib.hid hzk
      have ho' := Lib.hid ho
      clear hz cL0 hzk ho hM
      go_wp2_with (go_at_call 16; (with_reducible refine (cL.out _).mono ?_); rintro e w2 ⟨rfl, hd⟩; have ho2 : w2.ownsRow w.heap.size 2 1 (.slice (some ⟨w.heap.size, 0, none⟩) M M) M (fillI Z k) := (by obtain ⟨m, rfl⟩ := hd; exact ho'.out); have hb2 : Hid (Below w.heap.size w w2) := (by obtain ⟨m, rfl⟩ := hd; exact Lib.hid (belowN hbel.out m)); obtain ⟨old, hold⟩ : ∃ old, (fillI Z k)[k]? = some old := ⟨_, List.getElem?_eq_getElem (by rw [fillI_len _ _ (by omega)]; omega)⟩; have hco := (ho2.cellAt k (by omega)).trans hold; have hfo := ho2.frozenAt k; have hst := ho2.stored k (.int .i64 z); rw [← hzk'.out, fillI_set Z k (by omega), hzk'.out] at hst; have hst' := Lib.hid hst; clear hst ho2 hold hd)
      go_roundw
      case rel => exact ⟨k + 1, by omega, by go_num, hst'.out.1, Lib.hid (hb2.out.grown hst'.out.2 hb2.out.size (fun j hj => by cases hj; exact Nat.le_refl _))⟩
      case measure => simp [intOf]; omega
    · have hks : k = M := by omega
      have ho2 : Hid (wr.ownsRow w.heap.size 2 1 (.slice (some ⟨w.heap.size, 0, none⟩) M M) Z.length (Z.map encI)) := Lib.hid (by have h2 := ho; rw [hks, ← hZl, fillI_all] at h2; rw [hZl] at h2 ⊢; exact h2)
      clear hks ho
      go_wp2
      go_ret
      exact rowN_mk rfl (Nat.le_refl _) ho2.out hbel.out
def tapL (f t : Int) (n k : Nat) : List Int := (List.range k).map (fun (i : Nat) => lineR 0 f ((n : Int) - 1) t (i : Int))
theorem tapL_succ (f t : Int) (n k : Nat) : tapL f t n (k + 1) = tapL f t n k ++ [lineR 0 f ((n : Int) - 1) t (k : Int)] := by unfold tapL; rw [List.range_succ, List.map_append]; rfl
theorem tapL_len (f t : Int) (n k : Nat) : (tapL f t n k).length = k := by simp [tapL]
theorem tapL_get (f t : Int) (n m k : Nat) (h : k < m) : (tapL f t n m)[k]'(by rw [tapL_len]; exact h) = lineR 0 f ((n : Int) - 1) t (k : Int) := by simp [tapL]
def tapOk (f t n : Int) : Bool := (inB f 1 10000 && inB t 1 10000) && inB n 2 8
def tapC (f t n : Int) : Int := if tapOk f t n = true then 0 else 2
def tapV (f t n : Int) : List Int := if tapOk f t n = true then tapL f t n.toNat n.toNat else []
theorem tap_bad {f t n : Int} (h : tapOk f t n = false) : tapV f t n = [] ∧ tapC f t n = 2 := by unfold tapV tapC; rw [h]; exact ⟨rfl, rfl⟩
theorem tap_good {f t n : Int} (h : tapOk f t n = true) : tapV f t n = tapL f t n.toNat n.toNat ∧ tapC f t n = 0 := by unfold tapV tapC; rw [h]; exact ⟨rfl, rfl⟩
theorem line_tap {f t : Int} {n k : Nat} (hf : 1 ≤ f ∧ f ≤ 10000) (ht : 1 ≤ t ∧ t ≤ 10000) (hn : 2 ≤ n ∧ n ≤ 8) (hk : k < n) : -1000000 ≤ lineR 0 f ((n : Int) - 1) t (k : Int) ∧ lineR 0 f ((n : Int) - 1) t (k : Int) ≤ 1000000 := by
  unfold lineR
  split
  · omega
  · split
    · omega
    · split
      · omega
      · have h1 := mul_bd (a := t - f) (b := (k : Int) - 0) (B := 10000) (C := 8) (by omega) (by omega) (by omega) (by omega) (by omega)
        have h2 := rnd_bd ((t - f) * ((k : Int) - 0)) ((n : Int) - 1 - 0) (by omega)
        omega
theorem tapV_in {f t n : Int} : (∀ x ∈ tapV f t n, inI x) ∧ (tapV f t n).length ≤ 8 := by
  cases h : tapOk f t n
  · rw [(tap_bad h).1]; exact ⟨fun x hx => (by cases hx), by simp⟩
  · rw [(tap_good h).1, tapL_len]
    unfold tapOk at h
    rw [Bool.and_eq_true, Bool.and_eq_true, inB_iff, inB_iff, inB_iff] at h
    refine ⟨fun x hx => ?_, by omega⟩
    obtain ⟨i, hi, rfl⟩ := List.mem_map.1 hx
    have := line_tap (n := n.toNat) h.1.1 h.1.2 (by omega) (List.mem_range.1 hi)
    unfold inI; omega
theorem tapL_hb (f t : Int) (M : Nat) : tapL f t (M + 1) (M + 1) = hbL f t M (M + 1) := by unfold tapL hbL; rw [show (((M + 1 : Nat)) : Int) - 1 = (M : Int) by omega]
set_option maxHeartbeats 3200000 in
theorem implTaperHeights_any (f t n : Int) (w : World) : Calls Try.prog 5 #[.int .i64 f, .int .i64 t, .int .i64 n] w (RowC (tapV f t n) (tapC f t n) w) := by
  obtain ⟨i0, hi, hz0, hz1, hz2⟩ := info_parts infoI
  cases h1 : inB f 1 10000
  · have hr := Lib.hid (tap_bad (show tapOk f t n = false by unfold tapOk; rw [h1]; rfl))
    go_enter Try.func5, Try.ntmps5
    go_wp2_with (first
          | (go_at_call 12; refine (isRibSize_any _ _).mono ?_; rintro e w' ⟨rfl, rfl⟩)
          | (go_at_call 13; refine (within64_any _ _ _ _).mono ?_; rintro e w' ⟨rfl, rfl⟩))
    go_ret2
    exact rowC_nil hr.out.1 hr.out.2 (Below.refl _ _)
  cases h2 : inB t 1 10000
  · have hr := Lib.hid (tap_bad (show tapOk f t n = false by unfold tapOk; rw [h1, h2]; rfl))
    go_enter Try.func5, Try.ntmps5
    go_wp2_with (first
          | (go_at_call 12; refine (isRibSize_any _ _).mono ?_; rintro e w' ⟨rfl, rfl⟩)
          | (go_at_call 13; refine (within64_any _ _ _ _).mono ?_; rintro e w' ⟨rfl, rfl⟩))
    go_ret2
    exact rowC_nil hr.out.1 hr.out.2 (Below.refl _ _)
  cases h3 : inB n 2 8
  · have hr := Lib.hid (tap_bad (show tapOk f t n = false by unfold tapOk; rw [h1, h2, h3]; rfl))
    go_enter Try.func5, Try.ntmps5
    go_wp2_with (first
          | (go_at_call 12; refine (isRibSize_any _ _).mono ?_; rintro e w' ⟨rfl, rfl⟩)
          | (go_at_call 13; refine (within64_any _ _ _ _).mono ?_; rintro e w' ⟨rfl, rfl⟩))
    go_ret2
    exact rowC_nil hr.out.1 hr.out.2 (Below.refl _ _)
  have hr := Lib.hid (tap_good (show tapOk f t n = true by unfold tapOk; rw [h1, h2, h3]; rfl))
  have hf := inB_iff.1 h1
  have ht := inB_iff.1 h2
  have hn := inB_iff.1 h3
  obtain ⟨M, rfl⟩ : ∃ M : Nat, n = (M : Int) + 1 := ⟨(n - 1).toNat, by omega⟩
  have hM : ((M : Int) + 1).toNat = M + 1 := by omega
  rw [hM, tapL_hb] at hr
  have hMb : 1 ≤ M ∧ M ≤ 24 := by omega
  have cB := Lib.hid (fun W => heightsBetween_any f t M ⟨by omega, by omega⟩ ⟨by omega, by omega⟩ hMb W)
  clear hM
  go_enter Try.func5, Try.ntmps5
  go_wp2_with (first
          | (go_at_call 12; refine (isRibSize_any _ _).mono ?_; rintro e w' ⟨rfl, rfl⟩)
          | (go_at_call 13; refine (within64_any _ _ _ _).mono ?_; rintro e w' ⟨rfl, rfl⟩)
          | (go_at_call 14; (with_reducible refine (cB.out _).mono ?_); rintro e w3 ⟨v3, rfl, o3, b3⟩))
  go_ret2
  exact rowC_mk hr.out.1 hr.out.2 (Nat.le_refl _) o3 b3
set_option maxHeartbeats 3200000 in
theorem specTaperHeights_any (f t n : Int) (w : World) : Calls Try.prog 4 #[.int .i64 f, .int .i64 t, .int .i64 n] w (RowC (tapV f t n) (tapC f t n) w) := by
  obtain ⟨i0, hi, hz0, hz1, hz2⟩ := info_parts infoI
  cases h1 : inB f 1 10000
  · have hr := Lib.hid (tap_bad (show tapOk f t n = false by unfold tapOk; rw [h1]; rfl))
    go_enter Try.func4, Try.ntmps4
    go_wp2_with (first
          | (go_at_call 9; refine (l06Size_any _ _).mono ?_; rintro e w' ⟨rfl, rfl⟩)
          | (go_at_call 10; refine (l00In_any _ _ _ _).mono ?_; rintro e w' ⟨rfl, rfl⟩))
    go_ret2
    exact rowC_nil hr.out.1 hr.out.2 (Below.refl _ _)
  cases h2 : inB t 1 10000
  · have hr := Lib.hid (tap_bad (show tapOk f t n = false by unfold tapOk; rw [h1, h2]; rfl))
    go_enter Try.func4, Try.ntmps4
    go_wp2_with (first
          | (go_at_call 9; refine (l06Size_any _ _).mono ?_; rintro e w' ⟨rfl, rfl⟩)
          | (go_at_call 10; refine (l00In_any _ _ _ _).mono ?_; rintro e w' ⟨rfl, rfl⟩))
    go_ret2
    exact rowC_nil hr.out.1 hr.out.2 (Below.refl _ _)
  cases h3 : inB n 2 8
  · have hr := Lib.hid (tap_bad (show tapOk f t n = false by unfold tapOk; rw [h1, h2, h3]; rfl))
    go_enter Try.func4, Try.ntmps4
    go_wp2_with (first
          | (go_at_call 9; refine (l06Size_any _ _).mono ?_; rintro e w' ⟨rfl, rfl⟩)
          | (go_at_call 10; refine (l00In_any _ _ _ _).mono ?_; rintro e w' ⟨rfl, rfl⟩))
    go_ret2
    exact rowC_nil hr.out.1 hr.out.2 (Below.refl _ _)
  have hr := Lib.hid (tap_good (show tapOk f t n = true by unfold tapOk; rw [h1, h2, h3]; rfl))
  have hf := inB_iff.1 h1
  have ht := inB_iff.1 h2
  have hn := inB_iff.1 h3
  obtain ⟨N, rfl⟩ : ∃ N : Nat, n = (N : Int) := ⟨n.toNat, by omega⟩
  have hN : (N : Int).toNat = N := by omega
  rw [hN] at hr
  have hNb : 2 ≤ N ∧ N ≤ 8 := by omega
  go_enter Try.func4, Try.ntmps4
  go_wp2_with (first
        | (go_at_call 9; refine (l06Size_any _ _).mono ?_; rintro e w' ⟨rfl, rfl⟩)
        | (go_at_call 10; refine (l00In_any _ _ _ _).mono ?_; rintro e w' ⟨rfl, rfl⟩))
  have hown0 := rowI_start w
  have hbb0 : Hid (Below w.heap.size w (w.alloc (.cells #[] 2))) := Lib.hid ((Below.refl _ _).alloc (Nat.le_refl _) _)
  go_loopw [8, 9] (fun u i wr => ∃ (k : Nat) (L : List Int), k ≤ N ∧ i = .int .i64 k ∧ Hid (L = tapL f t N k) ∧ L.length = k ∧ wr.ownsRow w.heap.size 2 1 u L.length (L.map encI) ∧ Hid (Below w.heap.size w wr)) (fun _ i _ => N - (intOf i).toNat)
  case atStart => exact ⟨0, [], by omega, rfl, Lib.hid rfl, rfl, hown0, hbb0⟩
  case round =>
    obtain ⟨k, L, hk, rfl, hL, hLk, hown2, hbel2⟩ := hrel
    by_cases hlt : k < N
    · have hltI : (k : Int) < (N : Int) := by omega
      have cL0 := fun W => l01Line_any 0 f ((N : Int) - 1) t (k : Int) (by omega) (by omega) (by omega) (by omega) (by omega) (by omega) (by omega) (by omega) W
      have hL2 := tapL_succ f t N k
      obtain ⟨z, hz⟩ : ∃ z, z = lineR 0 f ((N : Int) - 1) t (k : Int) := ⟨_, rfl⟩
      rw [← hz] at cL0 hL2
      rw [← hL.out] at hL2
      have hL3 := Lib.hid hL2.symm
      have cL := Lib.hid cL0
      clear hz cL0 hL2
      go_wp2_with (first
        | (go_at_call 11; (with_reducible refine (cL.out _).mono ?_); rintro e w' ⟨rfl, rfl⟩)
        | (at_builtin; refine wpList_append_own _ rfl _ _ 22 rfl w.heap.size 2 i0 (.int .i64 0) 1 8 Try.underlying22 hi hz0 hz1 hz2 rfl (by decide) _ _ _ rfl (hown2.alloc _) ⟨wr.heap.size, 0, none⟩ 1 1 [.int .i64 z] rfl rfl ?c1A ?c2A ?c3A ?c4A ?c5A ?_))
      case c1A =>
        intro j u hj
        match j, hj with
        | 0, hj => simp at hj; subst hj; simp [Addr.add]
      case c2A => intro u hu; simp at hu; subst hu; rfl
      case c3A => unfold maxLen; omega
      case c4A => omega
      case c5A => have := hbel2.out.size; simp; omega
      intro v' w3 hown' hgrow' _
      have hb3 : Below w.heap.size w w3 := (hbel2.out.alloc hbel2.out.size (.cells #[.int .i64 z] 2)).grown hgrow' (by have := hbel2.out.size; simp at this ⊢; omega) (fun j hj => hown2.own_ge j hj)
      have hLl : (L ++ [z]).length = L.length + 1 := by simp
      have hown3 : w3.ownsRow w.heap.size 2 1 v' (L ++ [z]).length ((L ++ [z]).map encI) := by
        rw [hLl, List.map_append, List.map_singleton]; simpa [encI, hLk] using hown'
      have hb3' := Lib.hid hb3
      clear hgrow' hown' hb3
      go_wp2
      go_roundw
      case rel => exact ⟨k + 1, L ++ [z], by omega, by go_num, hL3, by rw [hLl]; omega, hown3, hb3'⟩
      case measure => simp [intOf]; omega
    · obtain rfl : k = N := by omega
      have hr2 : Hid (tapV f t (k : Int) = L) := Lib.hid (by rw [hr.out.1, hL.out])
      go_wp2
      go_ret2
      exact rowC_mk hr2.out hr.out.2 (Nat.le_refl _) hown2 hbel2.out
end Go.Proofs.Ytcioknobeacblaa
