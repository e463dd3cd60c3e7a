/-
  Hollows, by the program.
-/
import Derived.Test.YtagjpldfafablaaHoF
namespace Go.Proofs.Ytagjpldfafablaa
open Go.ChangeShapes Go.WideShapes Go.ChangeAt Go.RowKit Go.Deep
set_option linter.unusedVariables false
set_option linter.unusedSimpArgs false
set_option maxRecDepth 1000000
attribute [local go_sem] Oper.semAt_some
theorem anyP_iff {R C : Nat} (q : Nat → Nat → Bool) : anyP R C q = true ↔ ∃ i k, i < R ∧ k < C ∧ q i k = true := by
  unfold anyP
  rw [List.any_eq_true]
  constructor
  · rintro ⟨⟨i, k⟩, hm, hq⟩
    obtain ⟨h1, h2⟩ := mem_plAll.1 hm
    exact ⟨i, k, h1, h2, hq⟩
  · rintro ⟨i, k, h1, h2, hq⟩
    exact ⟨(i, k), mem_plAll.2 ⟨h1, h2⟩, hq⟩
theorem anyP_hoB (G : List (List Int)) (n : Int) : anyP G.length (colsG G) (fun i k => decide (hG G i k < n)) = !hoB G n := by
  cases h : hoB G n
  · show _ = true
    rw [anyP_iff]
    unfold hoB at h
    have h2 := of_decide_eq_false h
    by_cases hx : ∃ i k, i < G.length ∧ k < colsG G ∧ hG G i k < n
    · obtain ⟨i, k, a, b, c⟩ := hx
      exact ⟨i, k, a, b, decide_eq_true c⟩
    · exfalso
      exact h2 (fun a ha b hb => by
        rcases Int.lt_or_le (hG G a b) n with h3 | h3
        · exact absurd ⟨a, b, ha, hb, h3⟩ hx
        · exact h3)
  · show _ = false
    unfold hoB at h
    have h2 := of_decide_eq_true h
    rw [← Bool.not_eq_true, anyP_iff]
    rintro ⟨i, k, a, b, c⟩
    have := h2 i a k b
    have c' := of_decide_eq_true c
    omega
theorem codeOf1H (v : Value) (G : List (List Int)) (num : Int) (w : World) (hn : G.length + totL G ≤ 1048576) (hv : GridAt w v G) :
    Calls Try.prog 39 #[.int .i64 num, .slice (some ⟨w.heap.size, 0, none⟩) 1 1] (w.alloc (.cells #[v] 22)) fun e w' => e = .returned (.int .i64 (codeG (okG G) (inB num 0 1000))) ∧ DrewOf (w.alloc (.cells #[v] 22)) w' := by
  have hb : Below w.heap.size w (w.alloc (.cells #[v] 22)) := (Below.refl _ _).alloc (Nat.le_refl _) _
  have := codeOfGrids_any w.heap.size 1 (fun _ => v) (fun _ => G) num (w.alloc (.cells #[v] 22)) (by omega) (by simp) (fun j hj => ⟨by rw [show j = 0 by omega]; exact cellB (heap_alloc_new _ _) 0 _ rfl, hv.below hb, hn⟩)
  rwa [show allG 1 (fun _ => G) = okG G by rw [allG_next]; rfl] at this
set_option maxHeartbeats 6400000 in
theorem implHollowFor_any (v : Value) (G : List (List Int)) (n : Int) (w : World) (hn : G.length + totL G ≤ 1048576) (hv : GridAt w v G) : Calls Try.prog 13 #[v, .int .i64 n] w (GridRet (hoV G n) (hoC G n) w) := by
  have cC0 := codeOf1H v G n w hn hv
  have hbA : Below w.heap.size w (w.alloc (.cells #[v] 22)) := (Below.refl _ _).alloc (Nat.le_refl _) _
  cases hok : okG G
  · have hr1 : Hid (hoV G n = []) := Lib.hid (by unfold hoV; rw [hok]; rfl)
    have hr2 : Hid (hoC G n = 1) := Lib.hid (by unfold hoC; rw [hok]; rfl)
    rw [hok] at cC0
    have cC : Hid (Calls Try.prog 39 #[.int .i64 n, .slice (some ⟨w.heap.size, 0, none⟩) 1 1] (w.alloc (.cells #[v] 22)) fun e w' => e = .returned (.int .i64 1) ∧ DrewOf (w.alloc (.cells #[v] 22)) w') := Lib.hid cC0
    clear cC0
    obtain ⟨a0, cap0, rfl, _⟩ := hv
    go_enter Try.func13, Try.ntmps13
    go_wp2_with (go_at_call 39; refine cC.out.mono ?_; rintro e w1 ⟨rfl, hd⟩)
    go_ret2
    exact gridRet_nil hr1.out hr2.out (below2 hbA hd.below)
  rw [hok] at cC0
  cases hin : inB n 0 1000
  · have hr1 : Hid (hoV G n = []) := Lib.hid (by unfold hoV; rw [hok, hin]; rfl)
    have hr2 : Hid (hoC G n = 2) := Lib.hid (by unfold hoC; rw [hok, hin]; rfl)
    rw [hin] at cC0
    have cC : Hid (Calls Try.prog 39 #[.int .i64 n, .slice (some ⟨w.heap.size, 0, none⟩) 1 1] (w.alloc (.cells #[v] 22)) fun e w' => e = .returned (.int .i64 2) ∧ DrewOf (w.alloc (.cells #[v] 22)) w') := Lib.hid cC0
    clear cC0
    obtain ⟨a0, cap0, rfl, _⟩ := hv
    go_enter Try.func13, Try.ntmps13
    go_wp2_with (go_at_call 39; refine cC.out.mono ?_; rintro e w1 ⟨rfl, hd⟩)
    go_ret2
    exact gridRet_nil hr1.out hr2.out (below2 hbA hd.below)
  rw [hin] at cC0
  have hnb := inB_iff.1 hin
  have hr1 : Hid (hoV G n = if hoB G n then gridF G.length (colsG G) (fun a b => hG G a b - n) else []) := Lib.hid (by unfold hoV; rw [hok, hin]; rfl)
  have hr2 : Hid (hoC G n = if hoB G n then 0 else 6) := Lib.hid (by unfold hoC; rw [hok, hin]; rfl)
  obtain ⟨g, o, cap, rg, ro, rc, rfl, hGR⟩ := grid_GR hv hok
  have hAny := anyP_hoB G n
  have cC : Hid (Calls Try.prog 39 #[.int .i64 n, .slice (some ⟨w.heap.size, 0, none⟩) 1 1] (w.alloc (.cells #[.slice (some ⟨g, o, none⟩) G.length cap] 22)) fun e w' => e = .returned (.int .i64 0) ∧ DrewOf (w.alloc (.cells #[.slice (some ⟨g, o, none⟩) G.length cap] 22)) w') := Lib.hid cC0
  obtain ⟨R, hR⟩ : ∃ R, R = G.length := ⟨_, rfl⟩
  obtain ⟨C, hC⟩ : ∃ C, C = colsG G := ⟨_, rfl⟩
  obtain ⟨h, hh⟩ : ∃ h, h = hG G := ⟨_, rfl⟩
  rw [← hR] at cC hbA
  rw [← hR, ← hC, ← hh] at hGR hr1 hAny
  rw [← hR]
  have hr1' := hr1
  obtain ⟨OB, hOB⟩ : ∃ b, b = hoB G n := ⟨_, rfl⟩
  rw [← hOB] at hr1 hr2 hAny
  clear hR hC hh cC0 hr1' hOB hv hn hok hin
  have hbA' := Lib.hid hbA
  have hx0 := Lib.hid hGR
  have hAny' := Lib.hid hAny
  clear hbA hGR hAny
  go_enter Try.func13, Try.ntmps13
  go_wp2_with (go_at_call 39; refine cC.out.mono ?_; rintro e w1 ⟨rfl, hd⟩; have hb1 := below2 hbA'.out hd.below; clear hd)
  refine (places_any _ _ _ _).mono ?_
  rintro e w2 ⟨rfl, rfl⟩
  have hB1 : Below w1.heap.size w1 ((w1.alloc (.cells #[.iface 58 (.slice (some ⟨g, o, none⟩) R cap), .iface 59 (.int .i64 n)] 63)).alloc (.cells #[.slice (some ⟨g, o, none⟩) R cap] 58)) := ((Below.refl _ _).alloc (Nat.le_refl _) _).alloc (by simp) _
  have hbw : ((w1.alloc (.cells #[.iface 58 (.slice (some ⟨g, o, none⟩) R cap), .iface 59 (.int .i64 n)] 63)).alloc (.cells #[.slice (some ⟨g, o, none⟩) R cap] 58)).heap[w1.heap.size]? = some (.cells #[.iface 58 (.slice (some ⟨g, o, none⟩) R cap), .iface 59 (.int .i64 n)] 63 (0, 0)) := (Below.heap_alloc _ _ _ (by simp)).trans (heap_alloc_new w1 _)
  have hbg : ((w1.alloc (.cells #[.iface 58 (.slice (some ⟨g, o, none⟩) R cap), .iface 59 (.int .i64 n)] 63)).alloc (.cells #[.slice (some ⟨g, o, none⟩) R cap] 58)).cell? ⟨w1.heap.size + 1, 0, none⟩ = some (.slice (some ⟨g, o, none⟩) R cap) := cellB (by rw [show w1.heap.size + 1 = (w1.alloc (.cells #[.iface 58 (.slice (some ⟨g, o, none⟩) R cap), .iface 59 (.int .i64 n)] 63)).heap.size by simp]; exact heap_alloc_new _ _) 0 _ rfl
  have hsz : w1.heap.size < ((w1.alloc (.cells #[.iface 58 (.slice (some ⟨g, o, none⟩) R cap), .iface 59 (.int .i64 n)] 63)).alloc (.cells #[.slice (some ⟨g, o, none⟩) R cap] 58)).heap.size := by simp; omega
  have hx1 := hx0.out.below (below2 hb1 hB1)
  have hBB := Lib.hid (below2 hb1 hB1)
  have hsn : (w1.alloc (.cells #[.iface 58 (.slice (some ⟨g, o, none⟩) R cap), .iface 59 (.int .i64 n)] 63)).heap.size = w1.heap.size + 1 := by simp
  have hx1' := Lib.hid hx1
  have cF0 := firstH_any (w1.heap.size + 1) w1.heap.size g o cap R C rg ro rc h n hnb.1 hnb.2 ((w1.alloc (.cells #[.iface 58 (.slice (some ⟨g, o, none⟩) R cap), .iface 59 (.int .i64 n)] 63)).alloc (.cells #[.slice (some ⟨g, o, none⟩) R cap] 58)) hx1 hbg hbw
  rw [hAny'.out] at cF0
  rw [hsn]
  generalize ((w1.alloc (.cells #[.iface 58 (.slice (some ⟨g, o, none⟩) R cap), .iface 59 (.int .i64 n)] 63)).alloc (.cells #[.slice (some ⟨g, o, none⟩) R cap] 58)) = W4 at hB1 hbw hbg hsz hx1' hBB cF0 hx1 ⊢
  have hbw' := Lib.hid hbw
  have cF := Lib.hid cF0
  clear cF0 hbg hB1 hx1 hsn hbw
  cases OB
  · go_wp2_with (go_at_call 34; refine cF.out.mono ?_; rintro e w5 ⟨x, y, rfl, b5⟩)
    go_ret2
    exact gridRet_nil hr1.out hr2.out ((below2 hBB.out b5).alloc (below2 hBB.out b5).size _)
  · go_wp2_with fail
    refine cF.out.mono ?_
    rintro e w5 ⟨x, y, rfl, b5⟩
    have hB6 := b5.alloc b5.size (.cells #[.int .i64 x, .int .i64 y] 49)
    have hB6' := Lib.hid hB6
    have hx6 := hx1'.out.below hB6
    have hb6 := (hB6.block _ hsz).trans hbw'.out
    have c0 := cellB hb6 0 _ rfl
    have c1 := cellB hb6 1 _ rfl
    have cH := Lib.hid (heightsOver_wood g o cap R C rg ro rc h (w5.alloc (.cells #[.int .i64 x, .int .i64 y] 49)) hx6 (.agg #[.iface 58 (.slice (some ⟨g, o, none⟩) R cap), .iface 59 (.int .i64 n)]) (fun i k => h i k - n) (fun i k hi hk => by
      have := hx6.h0 i k hi hk
      have := hx6.h1 i k hi hk
      unfold inI; omega) (fun W hW i k hi hk => wood_flat g o cap R C rg ro rc h n hnb.1 hnb.2 W (hx6.below hW) i k hi hk))
    clear hx6 hb6 hB6 b5
    go_wp2_with (go_at_call 43; (with_reducible refine cH.out.mono ?_); rintro e w6 ⟨v6, vs6, rfl, O6, b6⟩)
    go_ret2
    have hBf := below2 hBB.out hB6'.out
    exact gridRet_mk (by rw [hr1.out]; rfl) (by rw [hr2.out]; rfl) O6 hBf.size (below2 hBf b6)
end Go.Proofs.Ytagjpldfafablaa
