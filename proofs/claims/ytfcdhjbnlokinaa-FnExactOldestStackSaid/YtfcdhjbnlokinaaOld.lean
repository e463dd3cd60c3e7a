/-
  The oldest stack: the program's and the model's contracts.
-/
import Derived.Test.YtfcdhjbnlokinaaStks5
import Derived.BigQuiet
namespace Go.Proofs.Ytfcdhjbnlokinaa
open Go.ChangeShapes Go.WideShapes Go.ChangeAt Go.RowKit Go.Deep
set_option linter.unusedVariables false
set_option linter.unusedSimpArgs false
/-- the place of the first stack with the least Since among the first k -/
def oldK (Z : List Stk) : Nat → Nat
  | 0 => 0
  | k + 1 => if (Z.getD k stk0).sin < (Z.getD (oldK Z k) stk0).sin then k else oldK Z k
def oldS (Z : List Stk) : Stk := Z.getD (oldK Z Z.length) stk0
def oldC (Z : List Stk) (d : Int) : Int := if stksB Z = true then (if inB d 0 36524 = true then (if Z.length = 0 then 3 else if d < (oldS Z).sin then 6 else 0) else 2) else 1
def oldT (Z : List Stk) (d : Int) : ByteArray := if oldC Z d = 0 then (oldS Z).id else ⟨#[]⟩
def oldN (Z : List Stk) (d : Int) : Int := if oldC Z d = 0 then d - (oldS Z).sin else 0
def OldRet (Z : List Stk) (d : Int) (w : World) (e : Ending) (w' : World) : Prop := e = .returned (.tuple #[.string (oldT Z d), .int .i64 (oldN Z d), .int .i64 (oldC Z d)]) ∧ Below w.heap.size w w'
theorem old_bad {Z : List Stk} {d c : Int} (h : oldC Z d = c) (hc : c ≠ 0) : oldT Z d = ⟨#[]⟩ ∧ oldN Z d = 0 ∧ oldC Z d = c := by
  unfold oldT oldN; rw [h, if_neg hc, if_neg hc]; exact ⟨rfl, rfl, rfl⟩
theorem old_good {Z : List Stk} {d : Int} (h : oldC Z d = 0) : oldT Z d = (oldS Z).id ∧ oldN Z d = d - (oldS Z).sin ∧ oldC Z d = 0 := by
  unfold oldT oldN; rw [h, if_pos rfl, if_pos rfl]; exact ⟨rfl, rfl, rfl⟩
theorem oldK_lt {Z : List Stk} : ∀ k, k ≤ Z.length → 0 < Z.length → oldK Z k < Z.length
  | 0, _, h => h
  | k + 1, hk, h => by unfold oldK; split; omega; exact oldK_lt k (by omega) h
theorem ret_old {a a' : ByteArray} {b b' c c' : Int} (h1 : a = a') (h2 : b = b') (h3 : c = c') : Ending.returned (.tuple #[.string a, .int .i64 b, .int .i64 c]) = .returned (.tuple #[.string a', .int .i64 b', .int .i64 c']) := by rw [h1, h2, h3]
theorem stks_sin {Z : List Stk} (h : stksB Z = true) {k : Nat} (hk : k < Z.length) : 0 ≤ Z[k].sin ∧ Z[k].sin ≤ 36524 := by
  rcases hb : stk_stepOK Z k with _ | _
  · rw [stksB_no hb hk] at h; cases h
  · unfold stk_stepOK at hb
    rw [stk_getD_at' hk] at hb
    have := (Bool.and_eq_true_iff.1 hb).1
    unfold stkB at this
    simp only [Bool.and_eq_true, inB_iff] at this
    exact this.2
theorem heap_setO {w : World} {b : Nat} {cs : Array Value} {t : TypeId} (h : w.heap[b]? = some (.cells cs t (0, 0))) (i : Nat) (v : Value) (cs' : Array Value) (hc : cs.setIfInBounds i v = cs') : (w.setCell ⟨b, i, none⟩ v).heap[b]? = some (.cells cs' t (0, 0)) := by
  obtain ⟨hlt, hk⟩ := Array.getElem?_eq_some_iff.1 h
  show (w.heap.modify b _)[b]? = _
  rw [Array.getElem?_eq_getElem (by rw [Array.size_modify]; exact hlt), Array.getElem_modify_self, hk, ← hc]
  simp [Array.setIfInBounds]
theorem old_set {w : World} {b : Nat} {x0 x1 x2 x3 : Value} {t : TypeId} (h : w.heap[b]? = some (.cells #[x0, x1, x2, x3] t (0, 0))) (y0 y1 y2 y3 : Value) (o : Obj) :
    (((((w.setCell ⟨b, 0, none⟩ y0).setCell ⟨b, 1, none⟩ y1).setCell ⟨b, 2, none⟩ y2).setCell ⟨b, 3, none⟩ y3).alloc o).heap[b]? = some (.cells #[y0, y1, y2, y3] t (0, 0)) := by
  have h4 := heap_setO (heap_setO (heap_setO (heap_setO h 0 y0 _ rfl) 1 y1 _ rfl) 2 y2 _ rfl) 3 y3 _ rfl
  exact (Below.heap_alloc _ _ _ (Array.getElem?_eq_some_iff.1 h4).1).trans h4
theorem old_below {w wr : World} {b : Nat} (h : Below w.heap.size w wr) (hb : w.heap.size ≤ b) (y0 y1 y2 y3 : Value) (o : Obj) :
    Below w.heap.size w (((((wr.setCell ⟨b, 0, none⟩ y0).setCell ⟨b, 1, none⟩ y1).setCell ⟨b, 2, none⟩ y2).setCell ⟨b, 3, none⟩ y3).alloc o) :=
  ((((h.setCell (p := ⟨b, 0, none⟩) hb y0).setCell (p := ⟨b, 1, none⟩) hb y1).setCell (p := ⟨b, 2, none⟩) hb y2).setCell (p := ⟨b, 3, none⟩) hb y3).alloc (by simp; exact h.size) o
set_option maxHeartbeats 3200000 in
theorem implOldestStack_any (v : Value) (Z : List Stk) (d : Int) (w : World) (hn : Z.length ≤ 1048576) (hv : StksAt w v Z) : Calls Try.prog 23 #[v, .int .i64 d] w (OldRet Z d w) := by
  cases h1 : stksB Z
  · have hr := Lib.hid (old_bad (show oldC Z d = 1 by unfold oldC; rw [h1]; rfl) (by decide))
    have cV := Lib.hid (implValidStacks_any v Z w hn hv)
    rw [h1] at cV
    go_enter Try.func23, Try.ntmps23
    go_wp2_with fail
    refine cV.out.mono ?_
    rintro e w1 ⟨rfl, b1⟩
    go_wp2
    go_ret3
    exact ⟨ret_old hr.out.1.symm hr.out.2.1.symm hr.out.2.2.symm, b1⟩
  cases h2 : inB d 0 36524
  · have hr := Lib.hid (old_bad (show oldC Z d = 2 by unfold oldC; rw [h1, h2]; rfl) (by decide))
    have cV := Lib.hid (implValidStacks_any v Z w hn hv)
    rw [h1] at cV
    go_enter Try.func23, Try.ntmps23
    go_wp2_with fail
    refine cV.out.mono ?_
    rintro e w1 ⟨rfl, b1⟩
    go_wp2_with (go_at_call 47; refine (isDay_any _ _).mono ?_; rintro e w' ⟨rfl, rfl⟩)
    go_ret3
    exact ⟨ret_old hr.out.1.symm hr.out.2.1.symm hr.out.2.2.symm, b1⟩
  have cV := Lib.hid (implValidStacks_any v Z w hn hv)
  rw [h1] at cV
  have hd := inB_iff.1 h2
  by_cases h0 : Z.length = 0
  · have hr := Lib.hid (old_bad (show oldC Z d = 3 by unfold oldC; rw [h1, h2, if_pos rfl, if_pos rfl, if_pos h0]) (by decide))
    obtain ⟨p, cap, rfl, hcap, hids, hread⟩ := hv
    rw [h0]
    rw [h0] at cV
    clear hread
    go_enter Try.func23, Try.ntmps23
    go_wp2_with fail
    refine cV.out.mono ?_
    rintro e w1 ⟨rfl, b1⟩
    go_wp2_with (go_at_call 47; refine (isDay_any _ _).mono ?_; rintro e w' ⟨rfl, rfl⟩)
    go_ret3
    exact ⟨ret_old hr.out.1.symm hr.out.2.1.symm hr.out.2.2.symm, b1⟩
  have hval := Lib.hid h1
  have hC : Hid (oldC Z d = if d < (oldS Z).sin then 6 else 0) := Lib.hid (by unfold oldC; rw [h1, h2, if_pos rfl, if_pos rfl, if_neg h0])
  have hlen : (Z.length : Int) ≠ 0 := by omega
  have hlenB : ((Z.length : Int) == 0) = false := beq_eq_false_iff_ne.2 (by omega)
  have hv0 := Lib.hid hv
  obtain ⟨p, cap, rfl, hcap, hids, hread⟩ := hv
  rcases hread with h | ⟨g, o, rfl, hg, hc⟩
  · subst h; simp at h0
  have hc' := Lib.hid hc
  have hpos : 0 < Z.length := by omega
  clear hc hids h0 hlen
  go_enter Try.func23, Try.ntmps23
  go_wp2_with fail
  refine cV.out.mono ?_
  rintro e w1 ⟨rfl, b1⟩
  obtain ⟨x, hx⟩ : ∃ x, x = Z[0] := ⟨_, rfl⟩
  have hr := range_below (hc'.out 0 hpos) hg b1
  rw [← hx] at hr
  obtain ⟨s, a, b, c⟩ := x
  have hx' := Lib.hid hx
  clear hx
  have hr0 : w1.rangeAt g (o + 0 * 4) [.string s, .int .i64 a, .int .i64 b, .int .i64 c] := hr
  clear hr
  have hposI : (0 : Int) < (Z.length : Int) := by omega
  have b1' := Lib.hid b1
  go_wp2_with (first
      | (go_at_call 47; refine (isDay_any _ _).mono ?_; rintro e w' ⟨rfl, rfl⟩)
      | (refine wpList_load_mid rfl _ _ rfl g (o + 0 * 4) (by first | rfl | simp) _ _ hr0 Try.underlying66 rfl rfl ?_))
  have q0 := heap_alloc_new w1 (.cells #[.string s, .int .i64 a, .int .i64 b, .int .i64 c] 66)
  have hB0 : Hid (Below w.heap.size w (w1.alloc (.cells #[.string s, .int .i64 a, .int .i64 b, .int .i64 c] 66))) := Lib.hid (b1.alloc b1.size _)
  have hz0 : w1.heap.size < (w1.alloc (.cells #[.string s, .int .i64 a, .int .i64 b, .int .i64 c] 66)).heap.size := by simp
  have hBw : w.heap.size ≤ w1.heap.size := b1.size
  have hini : Hid ((⟨s, a, b, c⟩ : Stk) = Z.getD (oldK Z 0) stk0) := Lib.hid (by rw [hx'.out]; show _ = Z.getD 0 stk0; rw [stk_getD_at' hpos])
  generalize w1.alloc (.cells #[.string s, .int .i64 a, .int .i64 b, .int .i64 c] 66) = W0 at q0 hB0 hz0 ⊢
  generalize w1.heap.size = B at q0 hz0 hBw ⊢
  clear b1 hr0 cV
  go_loopw [27] (fun i wr => ∃ (k : Nat) (s1 : ByteArray) (a1 b1 c1 : Int), k ≤ Z.length ∧ i = .int .i64 k ∧ Hid ((⟨s1, a1, b1, c1⟩ : Stk) = Z.getD (oldK Z k) stk0) ∧ wr.heap[B]? = some (.cells #[.string s1, .int .i64 a1, .int .i64 b1, .int .i64 c1] 66 (0, 0)) ∧ Hid (Below w.heap.size w wr)) (fun i _ => Z.length - (intOf i).toNat)
  case atStart => exact ⟨0, s, a, b, c, by omega, rfl, hini, q0, hB0⟩
  case round =>
    obtain ⟨k, s1, a1, b1, c1, hk, rfl, hbest, hBk, hbel⟩ := hrel
    have hBlt : B < wr.heap.size := (Array.getElem?_eq_some_iff.1 hBk).1
    have k0 := cellB hBk 0 _ rfl
    have k1 := cellB hBk 1 _ rfl
    have k2 := cellB hBk 2 _ rfl
    have k3 := cellB hBk 3 _ rfl
    have r0 := freeB hBk 0
    have r1 := freeB hBk 1
    have r2 := freeB hBk 2
    have r3 := freeB hBk 3
    by_cases hlt : k < Z.length
    · obtain ⟨x, hxk⟩ : ∃ x, x = Z[k] := ⟨_, rfl⟩
      have hr := range_below (hc'.out k hlt) hg hbel.out
      rw [← hxk] at hr
      obtain ⟨s2, a2, b2, c2⟩ := x
      have hr1 : wr.rangeAt g (o + k * 4) [.string s2, .int .i64 a2, .int .i64 b2, .int .i64 c2] := hr
      have hstep : oldK Z (k + 1) = if c2 < c1 then k else oldK Z k := by
        show (if (Z.getD k stk0).sin < (Z.getD (oldK Z k) stk0).sin then k else oldK Z k) = _
        rw [← hbest.out, stk_getD_at' hlt, ← hxk]
      have hxk' := Lib.hid hxk
      have hltI : (k : Int) < (Z.length : Int) := by omega
      clear hr hxk
      by_cases hcmp : c2 < c1
      · have hnew : Hid ((⟨s2, a2, b2, c2⟩ : Stk) = Z.getD (oldK Z (k + 1)) stk0) := Lib.hid (by rw [hstep, if_pos hcmp, stk_getD_at' hlt]; exact hxk'.out)
        clear hstep
        go_wp2_with (first
          | (refine wpList_load_mid rfl _ _ rfl g (o + k * 4) rfl _ _ hr1 Try.underlying66 rfl rfl ?_))
        go_roundw
        case rel => exact ⟨k + 1, s2, a2, b2, c2, by omega, by go_num, hnew, old_set hBk _ _ _ _ _, Lib.hid (old_below hbel.out hBw _ _ _ _ _)⟩
        case measure => simp [intOf]; omega
      · have hnew : Hid ((⟨s1, a1, b1, c1⟩ : Stk) = Z.getD (oldK Z (k + 1)) stk0) := Lib.hid (by rw [hstep, if_neg hcmp]; exact hbest.out)
        clear hstep
        go_wp2_with (first
          | (refine wpList_load_mid rfl _ _ rfl g (o + k * 4) rfl _ _ hr1 Try.underlying66 rfl rfl ?_))
        go_roundw
        case rel => exact ⟨k + 1, s1, a1, b1, c1, by omega, by go_num, hnew, (Below.heap_alloc _ _ _ hBlt).trans hBk, Lib.hid (hbel.out.alloc hbel.out.size _)⟩
        case measure => simp [intOf]; omega
    · have hkl : k = Z.length := by omega
      have hS : oldS Z = ⟨s1, a1, b1, c1⟩ := by unfold oldS; rw [← hkl]; exact hbest.out.symm
      have hcb : 0 ≤ c1 ∧ c1 ≤ 36524 := by
        have hl := oldK_lt (Z := Z) Z.length (Nat.le_refl _) hpos
        have := stks_sin hval.out hl
        have e : Z[oldK Z Z.length] = ⟨s1, a1, b1, c1⟩ := by rw [← hS]; unfold oldS; rw [stk_getD_at' hl]
        rw [e] at this; exact this
      have hC' := hC.out
      rw [hS] at hC'
      by_cases hs : d < c1
      · have hr := Lib.hid (old_bad (show oldC Z d = 6 by rw [hC', if_pos hs]) (by decide))
        clear hC' hS hkl
        go_wp2
        go_ret3
        exact ⟨ret_old hr.out.1.symm hr.out.2.1.symm hr.out.2.2.symm, hbel.out⟩
      · have hr0 := old_good (show oldC Z d = 0 by rw [hC', if_neg hs])
        rw [hS] at hr0
        have hr := Lib.hid hr0
        clear hC' hS hkl hr0
        go_wp2
        go_quiet (fail)
        go_wp2
        go_ret3
        exact ⟨ret_old hr.out.1.symm hr.out.2.1.symm hr.out.2.2.symm, belowN hbel.out _⟩
end Go.Proofs.Ytfcdhjbnlokinaa
