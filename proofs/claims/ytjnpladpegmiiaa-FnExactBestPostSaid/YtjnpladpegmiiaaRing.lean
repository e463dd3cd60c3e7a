/-
  Rows of rings: validity; the greatest of a row and its place, by the program.
-/
import Derived.Test.YtjnpladpegmiiaaRingMath
import Derived.Test.YtjnpladpegmiiaaGrid
import Derived.Test.YtjnpladpegmiiaaAllW
import Derived.Test.YtjnpladpegmiiaaFg
import Derived.BigQuiet
import Derived.Deep.QuietTactic
namespace Go.Proofs.Ytjnpladpegmiiaa
open Go.ChangeShapes Go.WideShapes Go.ChangeAt Go.RowKit Go.Deep
set_option linter.unusedVariables false
set_option linter.unusedSimpArgs false
set_option maxRecDepth 1000000
def ringOk (Z : List Int) (k : Nat) : Bool := inB (rgAt Z k) 0 1000
def ringB (Z : List Int) : Bool := inB (Z.length : Int) 1 8 && allK (ringOk Z) Z.length
def rowOk (G : List (List Int)) (i : Nat) : Bool := ringB (rwAt G i)
def rowsB (G : List (List Int)) : Bool := inB (G.length : Int) 1 8 && allK (rowOk G) G.length
theorem rgAt_at {Z : List Int} {k : Nat} (hk : k < Z.length) : rgAt Z k = Z[k] := by unfold rgAt; rw [getD_of _ hk]
theorem rwAt_at {G : List (List Int)} {k : Nat} (hk : k < G.length) : rwAt G k = G[k] := by unfold rwAt; rw [getD_of _ hk]
theorem ring_cell {w wr : World} {g o : Nat} {H : List Int} (hb : Below w.heap.size w wr) (hg : g < w.heap.size) (hc : ∀ i (hi : i < H.length), w.cell? ⟨g, o + i, none⟩ = some (.int .i64 H[i])) {k : Nat} (hk : k < H.length) : wr.cell? ⟨g, o + k, none⟩ = some (.int .i64 (rgAt H k)) := by
  rw [rgAt_at hk]; exact (hb.cell (p := ⟨g, o + k, none⟩) hg).trans (hc k hk)
theorem ring_bd {Z : List Int} (h : ringB Z = true) : 1 ≤ Z.length ∧ Z.length ≤ 8 ∧ ∀ k, k < Z.length → 0 ≤ rgAt Z k ∧ rgAt Z k ≤ 1000 := by
  unfold ringB at h
  obtain ⟨h1, h2⟩ := Bool.and_eq_true_iff.1 h
  have h3 := inB_iff.1 h1
  exact ⟨by omega, by omega, fun k hk => inB_iff.1 ((allK_iff _ _).1 h2 k hk)⟩
theorem rows_bd {G : List (List Int)} (h : rowsB G = true) : 1 ≤ G.length ∧ G.length ≤ 8 ∧ ∀ i, i < G.length → ringB (rwAt G i) = true := by
  unfold rowsB at h
  obtain ⟨h1, h2⟩ := Bool.and_eq_true_iff.1 h
  have h3 := inB_iff.1 h1
  exact ⟨by omega, by omega, fun i hi => (allK_iff _ _).1 h2 i hi⟩
theorem withinR_any (n lo hi : Int) (w : World) : Calls Try.prog 94 #[.int .i64 n, .int .i64 lo, .int .i64 hi] w fun e w' => e = .returned (.bool (inB n lo hi)) ∧ w = w' := by
  by_cases h1 : lo ≤ n
  · by_cases h2 : n ≤ hi
    · go_enter Try.func94, Try.ntmps94
      go_wp2
      go_ret
      exact ⟨ret_bool (by unfold inB; rw [decide_eq_true h1, decide_eq_true h2]; rfl), rfl⟩
    · go_enter Try.func94, Try.ntmps94
      go_wp2
      go_ret
      exact ⟨ret_bool (by unfold inB; rw [decide_eq_true h1, decide_eq_false (by omega), Bool.and_false]), rfl⟩
  · go_enter Try.func94, Try.ntmps94
    go_wp2
    go_ret
    exact ⟨ret_bool (by unfold inB; rw [decide_eq_false (by omega)]; rfl), rfl⟩
theorem isRingCount_any (n : Int) (w : World) : Calls Try.prog 83 #[.int .i64 n] w fun e w' => e = .returned (.bool (inB n 1 8)) ∧ w = w' := by
  go_enter Try.func83, Try.ntmps83
  go_wp2_with (go_at_call 94; (with_reducible refine (withinR_any _ _ _ _).mono ?_); rintro e w' ⟨rfl, rfl⟩)
  go_ret
  exact ⟨rfl, rfl⟩
set_option maxHeartbeats 1600000 in
theorem areRings_any (v : Value) (H : List Int) (w : World) (hn : H.length ≤ 1048576) (hv : IntsAt w v H) : Calls Try.prog 82 #[v] w fun e w' => e = .returned (.bool (ringB H)) ∧ Below w.heap.size w w' := by
  have cC : Hid (Calls Try.prog 89 #[v, .int .i64 0, .int .i64 1000] w fun e w' => e = .returned (.bool (allK (ringOk H) H.length)) ∧ Below w.heap.size w w') := Lib.hid (allWithin_any v H 0 1000 w (by unfold maxLen; omega) hv)
  have hx : Hid (ringB H = (inB (H.length : Int) 1 8 && allK (ringOk H) H.length)) := Lib.hid rfl
  have cW := fun W => isRingCount_any (H.length : Int) W
  obtain ⟨a0, cap, rfl, hcap, hids, hread⟩ := hv
  obtain ⟨q, hq⟩ : ∃ q, q = allK (ringOk H) H.length := ⟨_, rfl⟩
  obtain ⟨r, hr⟩ : ∃ r, r = inB (H.length : Int) 1 8 := ⟨_, rfl⟩
  rw [← hq] at cC hx
  rw [← hr] at cW hx
  replace cW := Lib.hid cW
  clear hread hids hq hr
  cases r
  · go_enter Try.func82, Try.ntmps82
    go_wp2_with (go_at_call 83; (with_reducible refine (cW.out _).mono ?_); rintro e w1 ⟨rfl, rfl⟩)
    go_ret
    exact ⟨ret_bool (by rw [hx.out]; rfl), Below.refl _ _⟩
  · go_enter Try.func82, Try.ntmps82
    go_wp2_with (first
      | (go_at_call 83; (with_reducible refine (cW.out _).mono ?_); rintro e w1 ⟨rfl, rfl⟩)
      | (go_at_call 89; (with_reducible refine cC.out.mono ?_); rintro e w2 ⟨rfl, b2⟩))
    go_ret
    exact ⟨ret_bool (by rw [hx.out]; first | rfl | simp), b2⟩
theorem bp1_any (v : Value) (H : List Int) (w : World) (hn : H.length ≤ 1048576) (hv : IntsAt w v H) : Calls Try.prog 81 #[v] w fun e w' => e = .returned (.bool (!ringB H)) ∧ Below w.heap.size w w' := by
  have cA := areRings_any v H w hn hv
  obtain ⟨a0, cap, rfl, hcap, hids, hread⟩ := hv
  clear hread hids
  cases h : ringB H <;> rw [h] at cA <;> replace cA := Lib.hid cA
  all_goals
    go_enter Try.func81, Try.ntmps81
    go_wp2_with (go_at_call 82; (with_reducible refine cA.out.mono ?_); rintro e w2 ⟨rfl, b2⟩)
    go_ret
    exact ⟨rfl, b2⟩
/-- row i of a grid that is read -/
theorem grid_row {w wr : World} {g o : Nat} {G : List (List Int)} (hb : Below w.heap.size w wr) (hg : g < w.heap.size) (hc : ∀ i (hi : i < G.length), ∃ u, w.cell? ⟨g, o + i, none⟩ = some u ∧ IntsAt w u G[i]) {k : Nat} (hk : k < G.length) : ∃ u, wr.cell? ⟨g, o + k, none⟩ = some u ∧ IntsAt wr u (rwAt G k) := by
  obtain ⟨u, h1, h2⟩ := hc k hk
  rw [rwAt_at hk]
  exact ⟨u, (hb.cell (p := ⟨g, o + k, none⟩) hg).trans h1, h2.below hb⟩
set_option maxHeartbeats 1600000 in
theorem indexRows_any (v : Value) (G : List (List Int)) (w : World) (hn : G.length ≤ 1048576) (hl : ∀ i, i < G.length → (rwAt G i).length ≤ 1048576) (hv : GridAt w v G) :
    Calls Try.prog 96 #[v, .func (Fn.func 81) #[] #[]] w fun e w' => ∃ n : Int, e = .returned (.int .i64 n) ∧ decide (0 ≤ n) = !(allK (rowOk G) G.length) ∧ Below w.heap.size w w' := by
  obtain ⟨a0, cap, rfl, hcap, hread⟩ := hv
  have hread' := Lib.hid hread
  have hl' := Lib.hid hl
  clear hread hl
  go_enter Try.func96, Try.ntmps96
  go_wp2
  go_loopw [8] (fun i wr => ∃ k : Nat, k ≤ G.length ∧ i = .int .i64 k ∧ Hid (allK (rowOk G) k = true) ∧ Hid (Below w.heap.size w wr)) (fun i _ => G.length - (intOf i).toNat)
  case atStart => exact ⟨0, by omega, rfl, Lib.hid rfl, Lib.hid (Below.refl _ _)⟩
  case round =>
    obtain ⟨k, hk, rfl, hall, hbel⟩ := hrel
    by_cases hlt : k < G.length
    · rcases hread'.out with h | ⟨g, o, rfl, hg, hc⟩
      · subst h; simp at hlt
      have hltI : (k : Int) < (G.length : Int) := by omega
      obtain ⟨u, c0, hu⟩ := grid_row hbel.out hg hc hlt
      have hst : Hid (rowOk G k = ringB (rwAt G k)) := Lib.hid rfl
      have cT0 := bp1_any u (rwAt G k) wr (hl'.out k hlt) hu
      obtain ⟨a1, cap1, rfl, hcap1, _, _⟩ := hu
      clear hc
      cases hcmp : ringB (rwAt G k) <;> rw [hcmp] at cT0 hst <;> have cT := Lib.hid cT0 <;> clear cT0
      · have hno : Hid (allK (rowOk G) G.length = false) := Lib.hid (allK_no hst.out hlt)
        go_wp2_with (go_at_call 81; (with_reducible refine cT.out.mono ?_); rintro e w2 ⟨rfl, b2⟩)
        go_ret
        exact ⟨_, rfl, by rw [hno.out, decide_eq_true (by omega)]; rfl, below2 hbel.out b2⟩
      · have hall2 : Hid (allK (rowOk G) (k + 1) = true) := Lib.hid (allK_yes hall.out hst.out)
        go_wp2_with (go_at_call 81; (with_reducible refine cT.out.mono ?_); rintro e w2 ⟨rfl, b2⟩)
        go_roundw
        case rel => exact ⟨k + 1, by omega, by go_num, hall2, Lib.hid (below2 hbel.out b2)⟩
        case measure => simp [intOf]; omega
    · have hkl : k = G.length := by omega
      have hall2 : Hid (allK (rowOk G) G.length = true) := Lib.hid (by have h9 := hall.out; rw [hkl] at h9; exact h9)
      clear hkl
      go_wp2
      go_ret
      exact ⟨_, rfl, by rw [hall2.out]; rfl, hbel.out⟩
theorem containsRows_any (v : Value) (G : List (List Int)) (w : World) (hn : G.length ≤ 1048576) (hl : ∀ i, i < G.length → (rwAt G i).length ≤ 1048576) (hv : GridAt w v G) :
    Calls Try.prog 84 #[v, .func (Fn.func 81) #[] #[]] w fun e w' => e = .returned (.bool (!(allK (rowOk G) G.length))) ∧ Below w.heap.size w w' := by
  have cI := Lib.hid (indexRows_any v G w hn hl hv)
  obtain ⟨a0, cap, rfl, hcap, hread⟩ := hv
  clear hread hl
  go_enter Try.func84, Try.ntmps84
  go_wp2_with (go_at_call 96; (with_reducible refine cI.out.mono ?_); rintro e w2 ⟨n, rfl, hd, b2⟩)
  go_ret
  exact ⟨ret_bool (by first | rfl | exact hd), b2⟩
set_option maxHeartbeats 1600000 in
theorem maxRow_any (v : Value) (H : List Int) (w : World) (h0 : 0 < H.length) (hn : H.length ≤ 8) (hv : IntsAt w v H) : Calls Try.prog 86 #[v] w fun e w' => e = .returned (.int .i64 (rwM H)) ∧ w = w' := by
  obtain ⟨a0, cap, rfl, hcap, hids, hread⟩ := hv
  rcases hread with h | ⟨g, o, rfl, hg, hc0⟩
  · subst h; simp at h0
  have hc := Lib.hid hc0
  have c00 : w.cell? ⟨g, o, none⟩ = some (.int .i64 (rgAt H 0)) := ring_cell (Below.refl _ _) hg hc0 h0
  have h0I : (0 : Int) < (H.length : Int) := by omega
  have h0J : ¬ (H.length : Int) < 1 := by omega
  clear hc0 hids
  go_enter Try.func86, Try.ntmps86
  go_wp2
  go_loopw [3, 4] (fun q i wr => ∃ (k : Nat) (y : Int), 1 ≤ k ∧ k ≤ H.length ∧ i = .int .i64 k ∧ q = .int .i64 y ∧ Hid (y = rgAt H (fgI (rgAt H) k)) ∧ wr = w) (fun _ i _ => H.length - (intOf i).toNat)
  case atStart => exact ⟨1, _, by omega, by omega, rfl, rfl, Lib.hid (by rw [fgI_one]), rfl⟩
  case round =>
    obtain ⟨k, y, hk0, hk, rfl, rfl, hy, rfl⟩ := hrel
    by_cases hlt : k < H.length
    · have hltI : (k : Int) < (H.length : Int) := by omega
      have ck := ring_cell (Below.refl _ _) hg hc.out hlt
      have hs : fgI (rgAt H) (k + 1) = if rgAt H (fgI (rgAt H) k) < rgAt H k then k else fgI (rgAt H) k := rfl
      have hnew : Hid (max y (rgAt H k) = rgAt H (fgI (rgAt H) (k + 1))) := Lib.hid (by rw [hs, hy.out]; split <;> omega)
      obtain ⟨x, hx⟩ : ∃ x, x = rgAt H k := ⟨_, rfl⟩
      rw [← hx] at ck hnew
      clear hx hs
      go_wp2
      all_goals go_roundw
      all_goals first
        | (case rel => exact ⟨k + 1, _, by omega, by omega, by go_num, rfl, Lib.hid (by first | exact hnew.out | (rw [← hnew.out]; omega)), by first | rfl | trivial⟩)
        | (case measure => simp [intOf]; omega)
    · obtain rfl : k = H.length := by omega
      go_wp2
      go_ret
      exact ⟨ret_int hy.out, rfl⟩
set_option maxHeartbeats 1600000 in
theorem indexOf_any (v : Value) (H : List Int) (w : World) (h0 : 0 < H.length) (hn : H.length ≤ 8) (hv : IntsAt w v H) : Calls Try.prog 87 #[v, .int .i64 (rwM H)] w fun e w' => e = .returned (.int .i64 ((rwI H : Nat) : Int)) ∧ w = w' := by
  have hlt0 := fgI_lt (f := rgAt H) H.length h0
  have hfi : Hid (∀ j, j < rwI H → rgAt H j < rwM H) := Lib.hid (fun j hj => fgI_first (f := rgAt H) H.length j hj)
  have heq : Hid (rgAt H (rwI H) = rwM H) := Lib.hid rfl
  have hlt1 : rwI H < H.length := hlt0
  obtain ⟨a0, cap, rfl, hcap, hids, hread⟩ := hv
  rcases hread with h | ⟨g, o, rfl, hg, hc0⟩
  · subst h; simp at h0
  have hc := Lib.hid hc0
  obtain ⟨m, hm⟩ : ∃ m, m = rwM H := ⟨_, rfl⟩
  obtain ⟨q, hq⟩ : ∃ q, q = rwI H := ⟨_, rfl⟩
  rw [← hm] at hfi heq ⊢
  rw [← hq] at hfi heq hlt1 ⊢
  clear hc0 hids hlt0 hm hq
  go_enter Try.func87, Try.ntmps87
  go_wp2
  go_loopw [8] (fun i wr => ∃ k : Nat, k ≤ q ∧ i = .int .i64 k ∧ wr = w) (fun i _ => H.length - (intOf i).toNat)
  case atStart => exact ⟨0, by omega, rfl, rfl⟩
  case round =>
    obtain ⟨k, hk, rfl, rfl⟩ := hrel
    have hltI : (k : Int) < (H.length : Int) := by omega
    have ck := ring_cell (Below.refl _ _) hg hc.out (k := k) (by omega)
    by_cases hlt : k < q
    · have hne := hfi.out k hlt
      obtain ⟨x, hx⟩ : ∃ x, x = rgAt H k := ⟨_, rfl⟩
      rw [← hx] at ck hne
      have hf : (m == x) = false := by rw [beq_eq_false_iff_ne]; omega
      clear hx
      go_wp2
      go_roundw
      case rel => exact ⟨k + 1, by omega, by go_num, by first | rfl | trivial⟩
      case measure => simp [intOf]; omega
    · obtain rfl : k = q := by omega
      rw [heq.out] at ck
      go_wp2
      go_ret
      exact ⟨rfl, rfl⟩
end Go.Proofs.Ytjnpladpegmiiaa
