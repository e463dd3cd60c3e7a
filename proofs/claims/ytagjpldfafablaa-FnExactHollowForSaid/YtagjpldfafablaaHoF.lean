/-
  Hollows: the first place that is too thin, by the program.
-/
import Derived.Test.YtagjpldfafablaaHoC
import Derived.Test.YtagjpldfafablaaOver
import Derived.Test.YtagjpldfafablaaCog8
import Derived.Test.YtagjpldfafablaaPla2
import Derived.Test.YtagjpldfafablaaHi
namespace Go.Proofs.Ytagjpldfafablaa
open Go.ChangeShapes Go.WideShapes Go.ChangeAt Go.RowKit Go.Deep
set_option linter.unusedVariables false
set_option linter.unusedSimpArgs false
set_option maxRecDepth 1000000
attribute [local go_sem] Oper.semAt_some
/-- is there a place that says yes? -/
def anyP (R C : Nat) (q : Nat → Nat → Bool) : Bool := (plAll R C).any (fun p => q p.1 p.2)
set_option maxHeartbeats 6400000 in
theorem firstH_any (bg bw g o cap R C : Nat) (rg ro rc : Nat → Nat) (h : Nat → Nat → Int) (n : Int) (hn0 : 0 ≤ n) (hn1 : n ≤ 1000) (w : World) (x : GR w g o cap R C rg ro rc h) (hbg : w.cell? ⟨bg, 0, none⟩ = some (.slice (some ⟨g, o, none⟩) R cap)) (hbw : w.heap[bw]? = some (.cells #[.iface 58 (.slice (some ⟨g, o, none⟩) R cap), .iface 59 (.int .i64 n)] 63 (0, 0))) :
    Calls Try.prog 34 #[.func (.func 63) #[] #[.pointer (some ⟨bg, 0, none⟩)], .func (.func 41) #[] #[.pointer (some ⟨bw, 0, none⟩)]] w fun e w' => ∃ x y : Int, e = .returned (.tuple #[.agg #[.int .i64 x, .int .i64 y], .bool (anyP R C (fun i k => decide (h i k < n)))]) ∧ Below w.heap.size w w' := by
  have hwl := lt_of_some hbw
  have hgl : bg < w.heap.size := World.block_lt_of_cell? w _ hbg
  have hx := Lib.hid x
  have hbw' := Lib.hid hbw
  have hpl := x.pl hbg
  have hgw := x.gl
  refine (callsIn_wide (n := 3)).1 ?_
  refine callsIn_of_wp_marks Try.func34 rfl trivial ?_ rfl
  simp only [Try.ntmps34, List.size_toArray, List.length_cons, List.length_nil, Nat.reduceAdd, Nat.reduceSub, Array.replicate_succ, Array.replicate_zero, List.push_toArray, List.append_toArray, List.nil_append, List.cons_append]
  have gB : Below w.heap.size w (((w.alloc (.cells #[.func (.func 41) #[] #[.pointer (some ⟨bw, 0, none⟩)]] 55)).alloc (.cells #[.int .i64 0, .int .i64 0] 49)).alloc (.cells #[.bool false] 4)) := (((Below.refl _ _).alloc (Nat.le_refl _) _).alloc (by simp) _).alloc (by simp; omega) _
  have gz : (((w.alloc (.cells #[.func (.func 41) #[] #[.pointer (some ⟨bw, 0, none⟩)]] 55)).alloc (.cells #[.int .i64 0, .int .i64 0] 49)).alloc (.cells #[.bool false] 4)).heap.size = w.heap.size + 3 := by simp
  have g2 : (((w.alloc (.cells #[.func (.func 41) #[] #[.pointer (some ⟨bw, 0, none⟩)]] 55)).alloc (.cells #[.int .i64 0, .int .i64 0] 49)).alloc (.cells #[.bool false] 4)).heap[w.heap.size]? = some (.cells #[.func (.func 41) #[] #[.pointer (some ⟨bw, 0, none⟩)]] 55 (0, 0)) := (Below.heap_alloc _ _ _ (by simp; omega)).trans ((Below.heap_alloc _ _ _ (by simp)).trans (heap_alloc_new _ _))
  have g3 : (((w.alloc (.cells #[.func (.func 41) #[] #[.pointer (some ⟨bw, 0, none⟩)]] 55)).alloc (.cells #[.int .i64 0, .int .i64 0] 49)).alloc (.cells #[.bool false] 4)).heap[w.heap.size + 1]? = some (.cells #[.int .i64 0, .int .i64 0] 49 (0, 0)) := (Below.heap_alloc _ _ _ (by simp)).trans (by rw [show w.heap.size + 1 = (w.alloc (.cells #[.func (.func 41) #[] #[.pointer (some ⟨bw, 0, none⟩)]] 55)).heap.size by simp]; exact heap_alloc_new _ _)
  have g4 : (((w.alloc (.cells #[.func (.func 41) #[] #[.pointer (some ⟨bw, 0, none⟩)]] 55)).alloc (.cells #[.int .i64 0, .int .i64 0] 49)).alloc (.cells #[.bool false] 4)).heap[w.heap.size + 2]? = some (.cells #[.bool false] 4 (0, 0)) := by rw [show w.heap.size + 2 = ((w.alloc (.cells #[.func (.func 41) #[] #[.pointer (some ⟨bw, 0, none⟩)]] 55)).alloc (.cells #[.int .i64 0, .int .i64 0] 49)).heap.size by simp]; exact heap_alloc_new _ _
  have hseq := places_seq 2 bg g o cap R C (fun b => b < w.heap.size) (((w.alloc (.cells #[.func (.func 41) #[] #[.pointer (some ⟨bw, 0, none⟩)]] 55)).alloc (.cells #[.int .i64 0, .int .i64 0] 49)).alloc (.cells #[.bool false] 4)) (hpl.below gB) hgl hgw
  clear hpl x hbg hbw
  gi_wp2
  refine' rangeP rfl (enters_of Try.func63 (by kernel_rfl) rfl) hseq
    (fun pre W => (Hid (∀ p ∈ pre, n ≤ h p.1 p.2) ∧ (W.heap[w.heap.size]? = some (.cells #[.func (.func 41) #[] #[.pointer (some ⟨bw, 0, none⟩)]] 55 (0, 0)) ∧ W.heap[w.heap.size + 1]? = some (.cells #[.int .i64 0, .int .i64 0] 49 (0, 0)) ∧ W.heap[w.heap.size + 2]? = some (.cells #[.bool false] 4 (0, 0)))) ∧ Below w.heap.size w W)
    (fun c pre W => (c = .ret ∧ Hid (anyP R C (fun i k => decide (h i k < n)) = true) ∧ ∃ x y : Int, W.heap[w.heap.size + 1]? = some (.cells #[.int .i64 x, .int .i64 y] 49 (0, 0)) ∧ W.heap[w.heap.size + 2]? = some (.cells #[.bool true] 4 (0, 0))) ∧ Below w.heap.size w W)
    (fun s A B h hAB => ⟨⟨h.1.1, low_heap h.1.2.1 (by omega) hAB, low_heap h.1.2.2.1 (by omega) hAB, low_heap h.1.2.2.2 (by omega) hAB⟩, h.2.trans (hAB.mono (by omega))⟩)
    (fun c s A B h hAB => by
      obtain ⟨⟨hc, hk, x, y, h1, h2⟩, hB⟩ := h
      exact ⟨⟨hc, hk, x, y, low_heap h1 (by omega) hAB, low_heap h2 (by omega) hAB⟩, hB.trans (hAB.mono (by omega))⟩)
    ⟨⟨Lib.hid (fun p hp => (by cases hp)), g2, g3, g4⟩, gB⟩ ?assign ?body ?done ?stop
  case assign =>
    rintro l B x W K hB hK
    unfold encP
    gi_wp2
    exact hK
  case body =>
    rintro l B pre ⟨p, q⟩ W hpre hl hlB hBW ⟨⟨hno, i2, i3, i4⟩, iB⟩ hBx hWz
    obtain ⟨hp, hq, _⟩ := pre_place hpre
    dsimp only at hp hq hBx ⊢
    have cC0 := hollow1_any g o cap R C rg ro rc h n hn0 hn1 bw W (hx.out.below iB) ((iB.block _ hwl).trans hbw'.out) p q hp hq
    unfold encP at cC0
    dsimp only at cC0
    have hno2 : Hid (n ≤ h p q → Hid (∀ s ∈ pre ++ [(p, q)], n ≤ h s.1 s.2)) := Lib.hid (fun hh => Lib.hid (fun s hs => by
      rcases List.mem_append.1 hs with h1 | h1
      · exact hno.out s h1
      · rw [List.mem_singleton.1 h1]; exact hh))
    have hyes : Hid (h p q < n → Hid (anyP R C (fun i k => decide (h i k < n)) = true)) := Lib.hid (fun hh => Lib.hid (by
      unfold anyP
      exact List.any_eq_true.2 ⟨(p, q), hpre.subset (by simp), decide_eq_true hh⟩))
    clear hno hpre
    obtain ⟨z, hz⟩ : ∃ z, z = h p q := ⟨_, rfl⟩
    rw [← hz] at cC0 hno2 hyes
    have c0 := cellB hBx 0 _ rfl
    have c1 := cellB hBx 1 _ rfl
    have f0 := cellB i2 0 _ rfl
    have hBlt : B < W.heap.size := lt_of_some hBx
    clear hz
    cases hd : decide (z < n)
    all_goals
      rw [hd] at cC0
      have cC := Lib.hid cC0
      clear cC0
      gi_wp2_with fail
      refine ⟨trivial, (CallsIn.inRound l (callsIn_wide.2 cC.out)).mono ?_⟩
      rintro e W2 ⟨rfl, b2⟩
      have j2 : W2.heap[w.heap.size]? = some (.cells #[.func (.func 41) #[] #[.pointer (some ⟨bw, 0, none⟩)]] 55 (0, 0)) := (b2.block _ (lt_of_some i2)).trans i2
      have j3 : W2.heap[w.heap.size + 1]? = some (.cells #[.int .i64 0, .int .i64 0] 49 (0, 0)) := (b2.block _ (lt_of_some i3)).trans i3
      have j4 : W2.heap[w.heap.size + 2]? = some (.cells #[.bool false] 4 (0, 0)) := (b2.block _ (lt_of_some i4)).trans i4
      have jx : W2.heap[B]? = some (.cells #[.int .i64 p, .int .i64 q] 49 (0, 0)) := (b2.block _ hBlt).trans hBx
      clear c0 c1 f0
      have c0 := cellB jx 0 _ rfl
      have c1 := cellB jx 1 _ rfl
      have k0 := cellB j3 0 _ rfl
      have k1 := cellB j3 1 _ rfl
      have r0 := freeB j3 0
      have r1 := freeB j3 1
      have k4 := cellB j4 0 _ rfl
      have r4 := freeB j4 0
      gi_wp2
    · have hz : ¬ z < n := by simpa using hd
      exact ⟨KeepsFrom.below b2, Keeps.of_below b2, ⟨hno2.out (by omega), j2, j3, j4⟩, below2 iB b2⟩
    · have hz : z < n := by simpa using hd
      refine ⟨((KeepsFrom.below b2).trans (((KeepsOthers.setCell W2 _ _).trans (KeepsOthers.setCell _ _ _)).from _)).trans ((KeepsOthers.setCell _ _ _).from _), ⟨rfl, hyes.out hz, p, q, ?_, ?_⟩, ?_⟩
      · rw [Below.heap_setCell _ _ _ _ (by simp)]; exact heap_set2 j3
      · exact heap_set ((other2 (by omega)).trans j4) 0 _ _ rfl
      · exact (((below2 iB b2).setCell (p := ⟨w.heap.size + 1, 0, none⟩) (by simp) _).setCell (p := ⟨w.heap.size + 1, 1, none⟩) (by simp) _).setCell (p := ⟨w.heap.size + 2, 0, none⟩) (by simp) _
  case done =>
    rintro K W hK ⟨⟨hno, i2, i3, i4⟩, iB⟩ hD
    have hK2 : w.heap.size + 3 ≤ K := by simpa using hK
    have hKW : K < W.heap.size := lt_of_some hD
    have hq : Hid (anyP R C (fun i k => decide (h i k < n)) = false) := Lib.hid (by
      unfold anyP
      exact List.any_eq_false.2 (fun p hp => by simpa using hno.out p hp))
    have k0 := cellB i3 0 _ rfl
    have k1 := cellB i3 1 _ rfl
    have r0 := freeB i3 0
    have r1 := freeB i3 1
    have k4 := cellB i4 0 _ rfl
    have r4 := freeB i4 0
    have hz1 : w.heap.size + 1 < W.heap.size := by omega
    have hz2 : w.heap.size + 2 < W.heap.size := by omega
    clear hno
    gi_wp2
    have d1 : (((W.setCell ⟨w.heap.size + 1, 0, none⟩ (.int .i64 0)).setCell ⟨w.heap.size + 1, 1, none⟩ (.int .i64 0)).setCell ⟨w.heap.size + 1 + 1, 0, none⟩ (.bool false)).heap[w.heap.size + 1]? = some (.cells #[.int .i64 0, .int .i64 0] 49 (0, 0)) := (Below.heap_setCell _ _ _ _ (by simp)).trans (heap_set2 i3)
    have d2 : (((W.setCell ⟨w.heap.size + 1, 0, none⟩ (.int .i64 0)).setCell ⟨w.heap.size + 1, 1, none⟩ (.int .i64 0)).setCell ⟨w.heap.size + 1 + 1, 0, none⟩ (.bool false)).heap[w.heap.size + 1 + 1]? = some (.cells #[.bool false] 4 (0, 0)) := heap_set ((other2 (by omega)).trans i4) 0 _ _ rfl
    have d3 : (((W.setCell ⟨w.heap.size + 1, 0, none⟩ (.int .i64 0)).setCell ⟨w.heap.size + 1, 1, none⟩ (.int .i64 0)).setCell ⟨w.heap.size + 1 + 1, 0, none⟩ (.bool false)).heap[K]? = some (.deferred (some [])) := (Below.heap_setCell _ _ _ _ (by simp; omega)).trans ((other2 (by omega)).trans hD)
    have d4 : Below w.heap.size w (((W.setCell ⟨w.heap.size + 1, 0, none⟩ (.int .i64 0)).setCell ⟨w.heap.size + 1, 1, none⟩ (.int .i64 0)).setCell ⟨w.heap.size + 1 + 1, 0, none⟩ (.bool false)) := ((iB.setCell (p := ⟨w.heap.size + 1, 0, none⟩) (by simp) _).setCell (p := ⟨w.heap.size + 1, 1, none⟩) (by simp) _).setCell (p := ⟨w.heap.size + 1 + 1, 0, none⟩) (by simp; omega) _
    have dz : K < (((W.setCell ⟨w.heap.size + 1, 0, none⟩ (.int .i64 0)).setCell ⟨w.heap.size + 1, 1, none⟩ (.int .i64 0)).setCell ⟨w.heap.size + 1 + 1, 0, none⟩ (.bool false)).heap.size := by simp; omega
    generalize (((W.setCell ⟨w.heap.size + 1, 0, none⟩ (.int .i64 0)).setCell ⟨w.heap.size + 1, 1, none⟩ (.int .i64 0)).setCell ⟨w.heap.size + 1 + 1, 0, none⟩ (.bool false)) = V at d1 d2 d3 d4 dz ⊢
    have e1 := (Below.heap_alloc V (.cells #[.int .i64 0, .int .i64 0] 49) _ (lt_of_some d1)).trans d1
    have e2 := (Below.heap_alloc V (.cells #[.int .i64 0, .int .i64 0] 49) _ (lt_of_some d2)).trans d2
    have e3 := (Below.heap_alloc V (.cells #[.int .i64 0, .int .i64 0] 49) _ dz).trans d3
    have h3 := (World.putObj_heap_other (o := .deferred none) (show w.heap.size + 1 ≠ K by omega)).trans e1
    have h4 := (World.putObj_heap_other (o := .deferred none) (show w.heap.size + 1 + 1 ≠ K by omega)).trans e2
    have q0 := cellB h3 0 _ rfl
    have q1 := cellB h3 1 _ rfl
    have q4 := cellB h4 0 _ rfl
    refine ⟨by simp, .inl ⟨_, _, rfl, run_takeDeferred e3, ?_⟩⟩
    refine ⟨.tuple #[.agg #[.int .i64 0, .int .i64 0], .bool false], ?_, 0, 0, ?_, (d4.alloc (by omega) _).trans (below_put _ _ (by omega) (by simp; omega))⟩
    · simp [results, Try.f34, go_sem, q0, q1, q4]
    · rw [hq.out]
  case stop =>
    rintro K c pre W hK hpre ⟨⟨rfl, hk, x, y, i3, i4⟩, iB⟩ hD
    have hk' := hk
    have hK2 : w.heap.size + 3 ≤ K := by simpa using hK
    clear hk
    gi_wp2
    have h3 := (World.putObj_heap_other (o := .deferred none) (show w.heap.size + 1 ≠ K by omega)).trans i3
    have h4 := (World.putObj_heap_other (o := .deferred none) (show w.heap.size + 2 ≠ K by omega)).trans i4
    have q0 := cellB h3 0 _ rfl
    have q1 := cellB h3 1 _ rfl
    have q4 := cellB h4 0 _ rfl
    refine ⟨by simp, .inl ⟨_, _, rfl, run_takeDeferred hD, ?_⟩⟩
    refine ⟨.tuple #[.agg #[.int .i64 x, .int .i64 y], .bool true], ?_, x, y, ?_, iB.trans (below_put _ _ (by omega) (by have := lt_of_some i3; omega))⟩
    · simp [results, Try.f34, go_sem, q0, q1, q4]
    · rw [hk'.out]
end Go.Proofs.Ytagjpldfafablaa
