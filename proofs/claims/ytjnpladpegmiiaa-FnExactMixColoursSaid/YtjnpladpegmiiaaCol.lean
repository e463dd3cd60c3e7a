/-
  Colours: three numbers in a row or by value; the gap of two.
-/
import Derived.Test.YtjnpladpegmiiaaAllW
import Derived.Test.YtjnpladpegmiiaaIntRow
import Derived.Deep.LoopGhost
import Derived.Deep.Draws
import Derived.Below
import Derived.BigRegion
namespace Go.Proofs.Ytjnpladpegmiiaa
open Go.ChangeShapes Go.WideShapes Go.ChangeAt Go.RowKit Go.Deep
set_option linter.unusedVariables false
set_option linter.unusedSimpArgs false
set_option maxRecDepth 1000000
def absC (p q : Int) : Int := if q < p then p - q else q - p
theorem absC_bd {p q : Int} {M : Int} (h0 : 0 ≤ p ∧ p ≤ M) (h1 : 0 ≤ q ∧ q ≤ M) : 0 ≤ absC p q ∧ absC p q ≤ M := by unfold absC; split <;> omega
theorem distC_any (p q : Int) (h0 : 0 ≤ p ∧ p ≤ 255) (h1 : 0 ≤ q ∧ q ≤ 255) (w : World) : Calls Try.prog 91 #[.int .i64 p, .int .i64 q] w fun e w' => e = .returned (.int .i64 (absC p q)) ∧ w = w' := by
  have e1 : IntKind.i64.wrap (p - q) = p - q := IntWalk.i64_in _ (by omega)
  have e2 : IntKind.i64.wrap (q - p) = q - p := IntWalk.i64_in _ (by omega)
  go_enter Try.func91, Try.ntmps91
  go_wp2
  all_goals go_ret
  all_goals exact ⟨ret_int (by unfold absC; split <;> omega), rfl⟩
theorem l03AbsC_any (p q : Int) (h0 : 0 ≤ p ∧ p ≤ 255) (h1 : 0 ≤ q ∧ q ≤ 255) (w : World) : Calls Try.prog 90 #[.int .i64 p, .int .i64 q] w fun e w' => e = .returned (.int .i64 (absC p q)) ∧ w = w' := by
  by_cases h : p < q
  all_goals
    go_enter Try.func90, Try.ntmps90
    go_wp2
    all_goals go_ret
    all_goals exact ⟨ret_int (by unfold absC; split <;> omega), rfl⟩
/-- a row is a colour -/
def colB (Z : List Int) : Bool := decide (Z.length = 3) && allI Z 0 255
theorem colB_iff {Z : List Int} (h : colB Z = true) : ∃ a b c : Int, Z = [a, b, c] ∧ (0 ≤ a ∧ a ≤ 255) ∧ (0 ≤ b ∧ b ≤ 255) ∧ (0 ≤ c ∧ c ≤ 255) := by
  unfold colB at h
  obtain ⟨h1, h2⟩ := Bool.and_eq_true_iff.1 h
  have h3 := of_decide_eq_true h1
  have h4 := allI_iff.1 h2
  match Z, h3 with
  | [a, b, c], _ => exact ⟨a, b, c, rfl, h4 a (by simp), h4 b (by simp), h4 c (by simp)⟩
theorem isColour_any (v : Value) (Z : List Int) (w : World) (hn : Z.length ≤ maxLen) (hv : IntsAt w v Z) : Calls Try.prog 56 #[v] w fun e w' => e = .returned (.bool (colB Z)) ∧ Below w.heap.size w w' := by
  have cA := Lib.hid (allWithin_any v Z 0 255 w hn hv)
  have hx : Hid (colB Z = (decide (Z.length = 3) && allI Z 0 255)) := Lib.hid rfl
  obtain ⟨q, hq⟩ : ∃ q, q = allI Z 0 255 := ⟨_, rfl⟩
  rw [← hq] at cA hx
  unfold maxLen at hn
  obtain ⟨a0, cap, rfl, _, _, _⟩ := hv
  clear hq
  by_cases h3 : Z.length = 3
  · rw [h3] at cA
    rw [h3]
    have hx2 : Hid (colB Z = (true && q)) := Lib.hid (by rw [hx.out, h3]; rfl)
    clear h3 hx hn
    cases q
    all_goals
      go_enter Try.func56, Try.ntmps56
      go_wp2_with (go_at_call 89; (with_reducible refine cA.out.mono ?_); rintro e w2 ⟨rfl, b2⟩)
      go_ret
      exact ⟨ret_bool (by rw [hx2.out]; rfl), b2⟩
  · have h3I : ¬((Z.length : Int) = 3) := by omega
    go_enter Try.func56, Try.ntmps56
    go_wp2
    go_ret
    exact ⟨ret_bool (by rw [hx.out]; simp [h3]), Below.refl _ _⟩
set_option maxHeartbeats 1600000 in
theorem l13Colour_any (v : Value) (Z : List Int) (w : World) (hn : Z.length ≤ maxLen) (hv : IntsAt w v Z) : Calls Try.prog 53 #[v] w fun e w' => e = .returned (.bool (colB Z)) ∧ w = w' := by
  have hx : Hid (colB Z = (decide (Z.length = 3) && allK (wAt Z 0 255) Z.length)) := Lib.hid rfl
  unfold maxLen at hn
  obtain ⟨a0, cap, rfl, hcap, hids, hread⟩ := hv
  have hread' := Lib.hid hread
  clear hread hids
  go_enter Try.func53, Try.ntmps53
  go_wp2
  go_loopw [3] (fun i wr => ∃ k : Nat, k ≤ Z.length ∧ i = .int .i64 k ∧ Hid (allK (wAt Z 0 255) k = true) ∧ wr = w) (fun i _ => Z.length - (intOf i).toNat)
  case atStart => exact ⟨0, by omega, rfl, Lib.hid rfl, rfl⟩
  case round =>
    obtain ⟨k, hk, rfl, hall, rfl⟩ := hrel
    by_cases hlt : k < Z.length
    · rcases hread'.out with h | ⟨g, o, rfl, hg, hc⟩
      · subst h; simp at hlt
      have hltI : (k : Int) < (Z.length : Int) := by omega
      have c0 := rowcell (Below.refl _ _) hg hc hlt
      have hst : Hid (wAt Z 0 255 k = inB (Z.getD k 0) 0 255) := Lib.hid rfl
      obtain ⟨x, hx'⟩ : ∃ x, x = Z.getD k 0 := ⟨_, rfl⟩
      rw [← hx'] at c0 hst
      have cT := fun W => l00In_any x 0 255 W
      clear hx' hc
      cases hcmp : inB x 0 255
      · rw [hcmp] at cT hst
        have hno : Hid (colB Z = false) := Lib.hid (by rw [hx.out, allK_no hst.out hlt, Bool.and_false])
        go_wp2_with (go_at_call 65; (with_reducible refine (cT _).mono ?_); rintro e w2 ⟨rfl, rfl⟩)
        go_ret
        exact ⟨ret_bool hno.out.symm, rfl⟩
      · rw [hcmp] at cT hst
        have hall2 : Hid (allK (wAt Z 0 255) (k + 1) = true) := Lib.hid (allK_yes hall.out hst.out)
        go_wp2_with (go_at_call 65; (with_reducible refine (cT _).mono ?_); rintro e w2 ⟨rfl, rfl⟩)
        go_roundw
        case rel => exact ⟨k + 1, by omega, by go_num, hall2, trivial⟩
        case measure => simp [intOf]; omega
    · have hkl : k = Z.length := by omega
      have hfin : Hid (colB Z = decide (Z.length = 3)) := Lib.hid (by have h9 := hall.out; rw [hkl] at h9; rw [hx.out, h9, Bool.and_true])
      clear hkl
      have hd : decide ((Z.length : Int) = 3) = decide (Z.length = 3) := decide_eq_decide.2 (by omega)
      go_wp2
      go_ret
      exact ⟨ret_bool (by rw [hfin.out]; trace_state; first | rfl | exact hd), rfl⟩
/-- the gap of two colours -/
def gap3 (a b c a' b' c' : Int) : Int := absC a a' + absC b b' + absC c c'
theorem two_boxC (w : World) (cs : Array Value) (T : TypeId) (cs' : Array Value) (T' : TypeId) : (∀ i v, cs[i]? = some v → ((w.alloc (.cells cs T)).alloc (.cells cs' T')).cell? ⟨w.heap.size, i, none⟩ = some v) ∧ (∀ i v, cs'[i]? = some v → ((w.alloc (.cells cs T)).alloc (.cells cs' T')).cell? ⟨w.heap.size + 1, i, none⟩ = some v) ∧ Below w.heap.size w ((w.alloc (.cells cs T)).alloc (.cells cs' T')) ∧ w.heap.size + 1 < ((w.alloc (.cells cs T)).alloc (.cells cs' T')).heap.size := by
  have e : (w.alloc (.cells cs T)).heap.size = w.heap.size + 1 := by simp
  have h1 := fun i v h => ((Below.refl (w.alloc (.cells cs T)).heap.size (w.alloc (.cells cs T))).alloc (Nat.le_refl _) (.cells cs' T')).cell (p := ⟨w.heap.size, i, none⟩) (by simp) |>.trans (cellB (heap_alloc_new w (.cells cs T)) i v h)
  have h2 := fun i v h => cellB (heap_alloc_new (w.alloc (.cells cs T)) (.cells cs' T')) i v h
  rw [e] at h2
  exact ⟨h1, h2, ((Below.refl _ _).alloc (Nat.le_refl _) _).alloc (by simp) _, by simp⟩
set_option maxHeartbeats 1600000 in
theorem gapTo_any (a b c a' b' c' : Int) (ha : 0 ≤ a ∧ a ≤ 255) (hb : 0 ≤ b ∧ b ≤ 255) (hc : 0 ≤ c ∧ c ≤ 255) (ha' : 0 ≤ a' ∧ a' ≤ 255) (hb' : 0 ≤ b' ∧ b' ≤ 255) (hc' : 0 ≤ c' ∧ c' ≤ 255) (w : World) : Calls Try.prog 60 #[.agg #[.int .i64 a, .int .i64 b, .int .i64 c], .agg #[.int .i64 a', .int .i64 b', .int .i64 c']] w fun e w' => e = .returned (.int .i64 (gap3 a b c a' b' c')) ∧ Below w.heap.size w w' := by
  have hz : Hid (gap3 a b c a' b' c' = absC a a' + absC b b' + absC c c') := Lib.hid rfl
  obtain ⟨x, hx⟩ : ∃ x, x = absC a a' := ⟨_, rfl⟩
  obtain ⟨y, hy⟩ : ∃ y, y = absC b b' := ⟨_, rfl⟩
  obtain ⟨z, hz0⟩ : ∃ z, z = absC c c' := ⟨_, rfl⟩
  have bx := absC_bd ha ha'
  have by' := absC_bd hb hb'
  have bz := absC_bd hc hc'
  have cX := fun W => distC_any a a' ha ha' W
  have cY := fun W => distC_any b b' hb hb' W
  have cZ := fun W => distC_any c c' hc hc' W
  rw [← hx] at bx cX hz
  rw [← hy] at by' cY hz
  rw [← hz0] at bz cZ hz
  have cX' := Lib.hid cX
  have cY' := Lib.hid cY
  have cZ' := Lib.hid cZ
  clear hx hy hz0 cX cY cZ
  go_enter Try.func60, Try.ntmps60
  go_wp2
  obtain ⟨q1, q2, hB0, hsz⟩ := two_boxC w #[.int .i64 a, .int .i64 b, .int .i64 c] 70 #[.int .i64 a', .int .i64 b', .int .i64 c'] 70
  generalize (w.alloc (.cells #[.int .i64 a, .int .i64 b, .int .i64 c] 70)).alloc (.cells #[.int .i64 a', .int .i64 b', .int .i64 c'] 70) = W0 at q1 q2 hB0 hsz ⊢
  have c0 := q1 0 _ rfl
  have c1 := q1 1 _ rfl
  have c2 := q1 2 _ rfl
  have d0 := q2 0 _ rfl
  have d1 := q2 1 _ rfl
  have d2 := q2 2 _ rfl
  clear q1 q2
  go_loopw [5, 7] (fun s i wr => DrewOf W0 wr ∧ ((i = .int .i64 0 ∧ s = .int .i64 0) ∨ (i = .int .i64 1 ∧ s = .int .i64 x) ∨ (i = .int .i64 2 ∧ s = .int .i64 (x + y)) ∨ (i = .int .i64 3 ∧ s = .int .i64 (x + y + z)))) (fun _ i _ => 3 - (intOf i).toNat)
  case atStart => exact ⟨DrewOf.refl _, Or.inl ⟨rfl, rfl⟩⟩
  case round =>
    obtain ⟨hd, hcase⟩ := hrel
    replace c0 := (hd.cell _).trans c0
    replace c1 := (hd.cell _).trans c1
    replace c2 := (hd.cell _).trans c2
    replace d0 := (hd.cell _).trans d0
    replace d1 := (hd.cell _).trans d1
    replace d2 := (hd.cell _).trans d2
    rcases hcase with ⟨rfl, rfl⟩ | ⟨rfl, rfl⟩ | ⟨rfl, rfl⟩ | ⟨rfl, rfl⟩
    · go_wp2
      go_quiet ((go_at_call 91; with_reducible exact Qs (cX'.out _)))
      go_wp2
      go_roundw
      case rel => exact ⟨hd.more _, Or.inr (Or.inl ⟨rfl, by go_num⟩)⟩
      case measure => simp [intOf]
    · go_wp2
      go_quiet ((go_at_call 91; with_reducible exact Qs (cY'.out _)))
      go_wp2
      go_roundw
      case rel => exact ⟨hd.more _, Or.inr (Or.inr (Or.inl ⟨rfl, rfl⟩))⟩
      case measure => simp [intOf]
    · go_wp2
      go_quiet ((go_at_call 91; with_reducible exact Qs (cZ'.out _)))
      go_wp2
      go_roundw
      case rel => exact ⟨hd.more _, Or.inr (Or.inr (Or.inr ⟨rfl, rfl⟩))⟩
      case measure => simp [intOf]
    · go_wp2
      go_ret
      exact ⟨ret_int hz.out.symm, hB0.trans (hd.below.mono hB0.size)⟩
set_option maxHeartbeats 1600000 in
theorem l13Gap_any (v v' : Value) (a b c a' b' c' : Int) (ha : 0 ≤ a ∧ a ≤ 255) (hb : 0 ≤ b ∧ b ≤ 255) (hc : 0 ≤ c ∧ c ≤ 255) (ha' : 0 ≤ a' ∧ a' ≤ 255) (hb' : 0 ≤ b' ∧ b' ≤ 255) (hc' : 0 ≤ c' ∧ c' ≤ 255) (w : World) (h1 : IntsAt w v [a, b, c]) (h2 : IntsAt w v' [a', b', c']) : Calls Try.prog 59 #[v, v'] w fun e w' => e = .returned (.int .i64 (gap3 a b c a' b' c')) ∧ DrewOf w w' := by
  have hz : Hid (gap3 a b c a' b' c' = absC a a' + absC b b' + absC c c') := Lib.hid rfl
  obtain ⟨x, hx⟩ : ∃ x, x = absC a a' := ⟨_, rfl⟩
  obtain ⟨y, hy⟩ : ∃ y, y = absC b b' := ⟨_, rfl⟩
  obtain ⟨z, hz0⟩ : ∃ z, z = absC c c' := ⟨_, rfl⟩
  have bx := absC_bd ha ha'
  have by' := absC_bd hb hb'
  have bz := absC_bd hc hc'
  have cX := fun W => l03AbsC_any a a' ha ha' W
  have cY := fun W => l03AbsC_any b b' hb hb' W
  have cZ := fun W => l03AbsC_any c c' hc hc' W
  rw [← hx] at bx cX hz
  rw [← hy] at by' cY hz
  rw [← hz0] at bz cZ hz
  have cX' := Lib.hid cX
  have cY' := Lib.hid cY
  have cZ' := Lib.hid cZ
  clear hx hy hz0 cX cY cZ
  obtain ⟨p, cap, rfl, hcap, _, hread⟩ := h1
  obtain ⟨p', cap', rfl, hcap', _, hread'⟩ := h2
  rcases hread with h | ⟨g, o, rfl, hg, hcl⟩
  · cases h
  rcases hread' with h | ⟨g', o', rfl, hg', hcl'⟩
  · cases h
  have c0 : w.cell? ⟨g, o, none⟩ = some (.int .i64 a) := hcl 0 (by simp)
  have c1 : w.cell? ⟨g, o + 1, none⟩ = some (.int .i64 b) := hcl 1 (by simp)
  have c2 : w.cell? ⟨g, o + 2, none⟩ = some (.int .i64 c) := hcl 2 (by simp)
  have d0 : w.cell? ⟨g', o', none⟩ = some (.int .i64 a') := hcl' 0 (by simp)
  have d1 : w.cell? ⟨g', o' + 1, none⟩ = some (.int .i64 b') := hcl' 1 (by simp)
  have d2 : w.cell? ⟨g', o' + 2, none⟩ = some (.int .i64 c') := hcl' 2 (by simp)
  clear hcl hcl'
  go_enter Try.func59, Try.ntmps59
  go_wp2
  go_loopw [5, 6] (fun s i wr => DrewOf w wr ∧ ((i = .int .i64 0 ∧ s = .int .i64 0) ∨ (i = .int .i64 1 ∧ s = .int .i64 x) ∨ (i = .int .i64 2 ∧ s = .int .i64 (x + y)) ∨ (i = .int .i64 3 ∧ s = .int .i64 (x + y + z)))) (fun _ i _ => 3 - (intOf i).toNat)
  case atStart => exact ⟨DrewOf.refl _, Or.inl ⟨rfl, rfl⟩⟩
  case round =>
    obtain ⟨hd, hcase⟩ := hrel
    replace c0 := (hd.cell _).trans c0
    replace c1 := (hd.cell _).trans c1
    replace c2 := (hd.cell _).trans c2
    replace d0 := (hd.cell _).trans d0
    replace d1 := (hd.cell _).trans d1
    replace d2 := (hd.cell _).trans d2
    rcases hcase with ⟨rfl, rfl⟩ | ⟨rfl, rfl⟩ | ⟨rfl, rfl⟩ | ⟨rfl, rfl⟩
    · go_wp2
      go_quiet ((go_at_call 90; with_reducible exact Qs (cX'.out _)))
      go_wp2
      go_roundw
      case rel => exact ⟨hd.more _, Or.inr (Or.inl ⟨rfl, by go_num⟩)⟩
      case measure => simp [intOf]
    · go_wp2
      go_quiet ((go_at_call 90; with_reducible exact Qs (cY'.out _)))
      go_wp2
      go_roundw
      case rel => exact ⟨hd.more _, Or.inr (Or.inr (Or.inl ⟨rfl, rfl⟩))⟩
      case measure => simp [intOf]
    · go_wp2
      go_quiet ((go_at_call 90; with_reducible exact Qs (cZ'.out _)))
      go_wp2
      go_roundw
      case rel => exact ⟨hd.more _, Or.inr (Or.inr (Or.inr ⟨rfl, rfl⟩))⟩
      case measure => simp [intOf]
    · go_wp2
      go_ret
      exact ⟨ret_int hz.out.symm, hd⟩
end Go.Proofs.Ytjnpladpegmiiaa
