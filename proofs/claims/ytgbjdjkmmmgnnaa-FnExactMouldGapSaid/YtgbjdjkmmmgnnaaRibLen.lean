/-
  Lengths of ribs: the program's and the model's contracts.
-/
import Derived.Test.YtgbjdjkmmmgnnaaRibs5
import Derived.BigQuiet
import Derived.Deep.QuietTactic
namespace Go.Proofs.Ytgbjdjkmmmgnnaa
open Go.ChangeShapes Go.WideShapes Go.ChangeAt Go.RowKit Go.Deep
set_option linter.unusedVariables false
set_option linter.unusedSimpArgs false
set_option maxRecDepth 1000000
/-- the length of the first k ribs -/
def lenS (Z : List Rib) : Nat → Int
  | 0 => 0
  | k + 1 => lenS Z k + (Z.getD k rib0).len
def lensOk (Z : List Rib) : Prop := Z.length ≤ 8 ∧ ∀ x ∈ Z, 0 ≤ x.len ∧ x.len ≤ 1000000
theorem lenS_bd {Z : List Rib} (h : lensOk Z) : ∀ k, k ≤ Z.length → 0 ≤ lenS Z k ∧ lenS Z k ≤ 1000000 * k
  | 0, _ => by unfold lenS; omega
  | k + 1, hk => by
    have h1 := lenS_bd h k (by omega)
    have h2 := h.2 _ (List.getElem_mem (show k < Z.length by omega))
    unfold lenS
    rw [rib_getD_at' (by omega)]
    omega
theorem lenS_mono {Z : List Rib} (h : lensOk Z) : ∀ k n, k ≤ n → n ≤ Z.length → lenS Z k ≤ lenS Z n
  | k, 0, h1, _ => by obtain rfl : k = 0 := by omega
                      exact Int.le_refl _
  | k, n + 1, h1, h2 => by
    rcases Nat.lt_or_ge n k with h3 | h3
    · obtain rfl : k = n + 1 := by omega
      exact Int.le_refl _
    · have := lenS_mono h k n h3 (by omega)
      have h4 := h.2 _ (List.getElem_mem (show n < Z.length by omega))
      show _ ≤ lenS Z n + (Z.getD n rib0).len
      rw [rib_getD_at' (by omega)]
      omega
theorem ribs_one {Z : List Rib} (h : ribsB Z = true) {k : Nat} (hk : k < Z.length) : ribB Z[k] = true := by
  rcases hb : rib_stepOK Z k with _ | _
  · rw [ribsB_no hb hk] at h; cases h
  · unfold rib_stepOK at hb
    rw [rib_getD_at' hk] at hb
    exact (Bool.and_eq_true_iff.1 hb).1
theorem ribs_mem {Z : List Rib} (h : ribsB Z = true) {x : Rib} (hx : x ∈ Z) : (1 ≤ x.len ∧ x.len ≤ 10000) ∧ (1 ≤ x.hgt ∧ x.hgt ≤ 10000) := by
  obtain ⟨k, hk, rfl⟩ := List.getElem_of_mem hx
  have := ribs_one h hk
  exact rib_bd (s := Z[k].id) this
theorem ribs_8 {Z : List Rib} (h : ribsB Z = true) : Z.length ≤ 8 := by
  unfold ribsB at h
  exact of_decide_eq_true (Bool.and_eq_true_iff.1 h).2
theorem ribs_lens {Z : List Rib} (h : ribsB Z = true) : lensOk Z := ⟨ribs_8 h, fun x hx => by have := ribs_mem h hx; omega⟩
theorem lenS_ribs {Z : List Rib} (h : ribsB Z = true) : ∀ k, k ≤ Z.length → k ≤ lenS Z k ∧ lenS Z k ≤ 10000 * k
  | 0, _ => by unfold lenS; omega
  | k + 1, hk => by
    have h1 := lenS_ribs h k (by omega)
    have h2 := ribs_mem h (List.getElem_mem (show k < Z.length by omega))
    unfold lenS
    rw [rib_getD_at' (by omega)]
    omega
theorem ribLen_at {w wr : World} (hd : DrewOf w wr) {g o : Nat} {x : Rib} (hr : w.rangeAt g o x.cells) : wr.cell? ⟨g, o + 1, none⟩ = some (.int .i64 x.len) := (ribAt_of (hd.range hr)).2.1
set_option maxHeartbeats 1600000 in
theorem ribsLength_any (v : Value) (Z : List Rib) (w : World) (hlo : lensOk Z) (hv : RibsAt w v Z) : Calls Try.prog 41 #[v] w fun e w' => e = .returned (.int .i64 (lenS Z Z.length)) ∧ Below w.heap.size w w' := by
  have h8 := hlo.1
  have hlo' := Lib.hid hlo
  obtain ⟨p, cap, rfl, hcap, hids, hread⟩ := hv
  have hread' := Lib.hid hread
  clear hread hids hlo
  go_enter Try.func41, Try.ntmps41
  go_wp2
  go_loopw [3, 8] (fun q i wr => ∃ (k : Nat) (n : Int), k ≤ Z.length ∧ i = .int .i64 k ∧ q = .int .i64 n ∧ 0 ≤ n ∧ n ≤ 1000000 * k ∧ Hid (n = lenS Z k) ∧ Hid (Below w.heap.size w wr)) (fun _ i _ => Z.length - (intOf i).toNat)
  case atStart => exact ⟨0, 0, by omega, rfl, rfl, by omega, by omega, Lib.hid rfl, Lib.hid (Below.refl _ _)⟩
  case round =>
    obtain ⟨k, n, hk, rfl, rfl, hn0, hn1, hn, hbel⟩ := hrel
    by_cases hlt : k < Z.length
    · rcases hread'.out with h | ⟨g, o, rfl, hg, hc⟩
      · subst h; simp at hlt
      obtain ⟨x, hx⟩ : ∃ x, x = Z[k] := ⟨_, rfl⟩
      have hr := range_below (hc k hlt) hg hbel.out
      rw [← hx] at hr
      have hxb := hlo'.out.2 _ (List.getElem_mem hlt)
      rw [← hx] at hxb
      have hnew : Hid (n + x.len = lenS Z (k + 1)) := Lib.hid (by show _ = lenS Z k + (Z.getD k rib0).len; rw [rib_getD_at' hlt, ← hx, hn.out])
      obtain ⟨s, a, b⟩ := x
      simp only at hxb hnew
      have hr1 : wr.rangeAt g (o + k * 3) [.string s, .int .i64 a, .int .i64 b] := hr
      have hltI : (k : Int) < (Z.length : Int) := by omega
      clear hr hx hc
      go_wp2_with (first
        | (refine wpList_load_mid rfl _ _ rfl g (o + k * 3) rfl _ _ hr1 Try.underlying50 rfl rfl ?_))
      go_roundw
      case rel => exact ⟨k + 1, n + a, by omega, by go_num, rfl, by omega, by omega, hnew, Lib.hid (hbel.out.alloc hbel.out.size _)⟩
      case measure => simp [intOf]; omega
    · obtain rfl : k = Z.length := by omega
      go_wp2
      go_ret
      exact ⟨ret_int hn.out, hbel.out⟩
set_option maxHeartbeats 1600000 in
theorem l06Long_any (v : Value) (Z : List Rib) (w : World) (hlo : lensOk Z) (hv : RibsAt w v Z) : Calls Try.prog 40 #[v] w fun e w' => e = .returned (.int .i64 (lenS Z Z.length)) ∧ DrewOf w w' := by
  have h8 := hlo.1
  have hlo' := Lib.hid hlo
  obtain ⟨p, cap, rfl, hcap, hids, hread⟩ := hv
  have hread' := Lib.hid hread
  clear hread hids hlo
  go_enter Try.func40, Try.ntmps40
  go_wp2
  go_loopw [3, 4] (fun q i wr => ∃ (k : Nat) (n : Int), k ≤ Z.length ∧ i = .int .i64 k ∧ q = .int .i64 n ∧ 0 ≤ n ∧ n ≤ 1000000 * k ∧ Hid (n = lenS Z k) ∧ DrewOf w wr) (fun _ i _ => Z.length - (intOf i).toNat)
  case atStart => exact ⟨0, 0, by omega, rfl, rfl, by omega, by omega, Lib.hid rfl, DrewOf.refl _⟩
  case round =>
    obtain ⟨k, n, hk, rfl, rfl, hn0, hn1, hn, hd⟩ := hrel
    by_cases hlt : k < Z.length
    · rcases hread'.out with h | ⟨g, o, rfl, hg, hc⟩
      · subst h; simp at hlt
      have hltI : (k : Int) < (Z.length : Int) := by omega
      have c1 := ribLen_at hd (hc k hlt)
      have hxb := hlo'.out.2 _ (List.getElem_mem hlt)
      have hnew : Hid (n + Z[k].len = lenS Z (k + 1)) := Lib.hid (by show _ = lenS Z k + (Z.getD k rib0).len; rw [rib_getD_at' hlt, hn.out])
      obtain ⟨x1, hx1⟩ : ∃ x1, x1 = Z[k].len := ⟨_, rfl⟩
      rw [← hx1] at c1 hxb hnew
      clear hx1 hc
      go_wp2
      go_roundw
      case rel => exact ⟨k + 1, n + x1, by omega, by go_num, rfl, by omega, by omega, hnew, hd⟩
      case measure => simp [intOf]; omega
    · obtain rfl : k = Z.length := by omega
      go_wp2
      go_ret
      exact ⟨ret_int hn.out, hd⟩
theorem implRibsLength_any (v : Value) (Z : List Rib) (w : World) (hn : Z.length ≤ 1048576) (hv : RibsAt w v Z) : Calls Try.prog 16 #[v] w fun e w' => e = .returned (.tuple #[.int .i64 (pick (ribsB Z) (lenS Z Z.length)), .int .i64 (code (ribsB Z) 1)]) ∧ Below w.heap.size w w' := by
  have cV := Lib.hid (implValidRibs_any v Z w hn hv)
  have hv0 := Lib.hid hv
  clear hv
  cases h : ribsB Z
  · rw [h] at cV
    go_enter Try.func16, Try.ntmps16
    go_wp2_with (go_at_call 13; refine cV.out.mono ?_; rintro e w1 ⟨rfl, b1⟩)
    go_ret2
    exact ⟨ret_int2 rfl rfl, b1⟩
  · rw [h] at cV
    have hlo := Lib.hid (ribs_lens h)
    go_enter Try.func16, Try.ntmps16
    go_wp2_with (first
      | (go_at_call 13; refine cV.out.mono ?_; rintro e w1 ⟨rfl, b1⟩)
      | (go_at_call 41; refine (ribsLength_any v Z _ hlo.out (hv0.out.below b1)).mono ?_; rintro e w2 ⟨rfl, b2⟩))
    go_ret2
    exact ⟨ret_int2 rfl rfl, below2 b1 b2⟩
theorem specRibsLength_any (v : Value) (Z : List Rib) (w : World) (hn : Z.length ≤ 1048576) (hv : RibsAt w v Z) : Calls Try.prog 15 #[v] w fun e w' => e = .returned (.tuple #[.int .i64 (pick (ribsB Z) (lenS Z Z.length)), .int .i64 (code (ribsB Z) 1)]) ∧ Below w.heap.size w w' := by
  have cV := Lib.hid (l06Ok_any v Z w hn hv)
  have hv0 := Lib.hid hv
  clear hv
  cases h : ribsB Z
  · rw [h] at cV
    go_enter Try.func15, Try.ntmps15
    go_wp2_with (go_at_call 34; refine cV.out.mono ?_; rintro e w1 ⟨rfl, b1⟩)
    go_ret2
    exact ⟨ret_int2 rfl rfl, b1.below⟩
  · rw [h] at cV
    have hlo := Lib.hid (ribs_lens h)
    go_enter Try.func15, Try.ntmps15
    go_wp2_with (first
      | (go_at_call 34; refine cV.out.mono ?_; rintro e w1 ⟨rfl, b1⟩)
      | (go_at_call 40; refine (l06Long_any v Z _ hlo.out (hv0.out.below b1.below)).mono ?_; rintro e w2 ⟨rfl, b2⟩))
    go_ret2
    exact ⟨ret_int2 rfl rfl, (b1.trans b2).below⟩
def code2 (b1 b2 : Bool) (c1 c2 : Int) : Int := if b1 = true then (if b2 = true then 0 else c2) else c1
theorem implMouldGap_any (v : Value) (Z : List Rib) (n : Int) (w : World) (hn : Z.length ≤ 1048576) (hv : RibsAt w v Z) : Calls Try.prog 24 #[v, .int .i64 n] w fun e w' => e = .returned (.tuple #[.int .i64 (pick (ribsB Z && inB n 0 100000) (n - lenS Z Z.length)), .int .i64 (code2 (ribsB Z) (inB n 0 100000) 1 2)]) ∧ Below w.heap.size w w' := by
  have cV := Lib.hid (implValidRibs_any v Z w hn hv)
  have hv0 := Lib.hid hv
  clear hv
  cases h : ribsB Z
  · rw [h] at cV
    go_enter Try.func24, Try.ntmps24
    go_wp2_with (go_at_call 13; refine cV.out.mono ?_; rintro e w1 ⟨rfl, b1⟩)
    go_ret2
    exact ⟨ret_int2 rfl rfl, b1⟩
  rw [h] at cV
  cases h2 : inB n 0 100000
  · go_enter Try.func24, Try.ntmps24
    go_wp2_with (first
      | (go_at_call 13; refine cV.out.mono ?_; rintro e w1 ⟨rfl, b1⟩)
      | (go_at_call 46; refine (isRound_any _ _).mono ?_; rintro e w' ⟨rfl, rfl⟩))
    go_ret2
    exact ⟨ret_int2 rfl rfl, b1⟩
  · have hlo := Lib.hid (ribs_lens h)
    have hb := lenS_bd hlo.out Z.length (Nat.le_refl _)
    have h8 := hlo.out.1
    have hn1 := inB_iff.1 h2
    have cL := Lib.hid (fun W (hb : Below w.heap.size w W) => ribsLength_any v Z W hlo.out (hv0.out.below hb))
    have hL : Hid (lenS Z Z.length = lenS Z Z.length) := Lib.hid rfl
    obtain ⟨L, hLe⟩ : ∃ L, L = lenS Z Z.length := ⟨_, rfl⟩
    rw [← hLe] at cL hb ⊢
    clear hLe hL
    go_enter Try.func24, Try.ntmps24
    go_wp2_with (first
      | (go_at_call 13; refine cV.out.mono ?_; rintro e w1 ⟨rfl, b1⟩)
      | (go_at_call 46; refine (isRound_any _ _).mono ?_; rintro e w' ⟨rfl, rfl⟩)
      | (go_at_call 41; refine (cL.out _ (b1)).mono ?_; rintro e w2 ⟨rfl, b2⟩))
    go_ret2
    exact ⟨ret_int2 rfl rfl, below2 b1 b2⟩
theorem specMouldGap_any (v : Value) (Z : List Rib) (n : Int) (w : World) (hn : Z.length ≤ 1048576) (hv : RibsAt w v Z) : Calls Try.prog 23 #[v, .int .i64 n] w fun e w' => e = .returned (.tuple #[.int .i64 (pick (ribsB Z && inB n 0 100000) (n - lenS Z Z.length)), .int .i64 (code2 (ribsB Z) (inB n 0 100000) 1 2)]) ∧ Below w.heap.size w w' := by
  have cV := Lib.hid (l06Ok_any v Z w hn hv)
  have hv0 := Lib.hid hv
  clear hv
  cases h : ribsB Z
  · rw [h] at cV
    go_enter Try.func23, Try.ntmps23
    go_wp2_with (go_at_call 34; refine cV.out.mono ?_; rintro e w1 ⟨rfl, b1⟩)
    go_ret2
    exact ⟨ret_int2 rfl rfl, b1.below⟩
  rw [h] at cV
  cases h2 : inB n 0 100000
  · go_enter Try.func23, Try.ntmps23
    go_wp2_with (first
      | (go_at_call 34; refine cV.out.mono ?_; rintro e w1 ⟨rfl, b1⟩)
      | (go_at_call 45; refine (l06Round_any _ _).mono ?_; rintro e w' ⟨rfl, rfl⟩))
    go_ret2
    exact ⟨ret_int2 rfl rfl, b1.below⟩
  · have hlo := Lib.hid (ribs_lens h)
    have hb := lenS_bd hlo.out Z.length (Nat.le_refl _)
    have h8 := hlo.out.1
    have hn1 := inB_iff.1 h2
    have cL := Lib.hid (fun W (hb : Below w.heap.size w W) => l06Long_any v Z W hlo.out (hv0.out.below hb))
    have hL : Hid (lenS Z Z.length = lenS Z Z.length) := Lib.hid rfl
    obtain ⟨L, hLe⟩ : ∃ L, L = lenS Z Z.length := ⟨_, rfl⟩
    rw [← hLe] at cL hb ⊢
    clear hLe hL
    go_enter Try.func23, Try.ntmps23
    go_wp2_with (first
      | (go_at_call 34; refine cV.out.mono ?_; rintro e w1 ⟨rfl, b1⟩)
      | (go_at_call 45; refine (l06Round_any _ _).mono ?_; rintro e w' ⟨rfl, rfl⟩)
      | (go_at_call 40; refine (cL.out _ (b1.below)).mono ?_; rintro e w2 ⟨rfl, b2⟩))
    go_ret2
    exact ⟨ret_int2 rfl rfl, (b1.trans b2).below⟩
end Go.Proofs.Ytgbjdjkmmmgnnaa
