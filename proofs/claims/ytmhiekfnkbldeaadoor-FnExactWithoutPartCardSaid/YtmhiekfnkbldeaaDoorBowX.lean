/-
  Bows: WithoutPart on the program's side.
-/
import Derived.Test.YtmhiekfnkbldeaaDoorBowG
import Derived.StillTailTactics
namespace Go.Proofs.YtmhiekfnkbldeaaDoor
open Go.ChangeShapes Go.WideShapes Go.ChangeAt Go.RowKit Go.Deep
set_option linter.unusedVariables false
set_option linter.unusedSimpArgs false
set_option maxRecDepth 1000000
set_option maxHeartbeats 3200000 in
theorem wop_no (m q : Int) (pa : Option Addr) (cap : Nat) (Z : List Prt) (u : ByteArray) (p mm hh x : Addr) (hlo : bowOk Z) (w : World) (hv : PrtsAt w (.slice pa Z.length cap) Z) (hE : BowErrX w 4 p mm hh x) (hf : ¬ fdN (idP Z u) Z.length < Z.length) : Calls Tryd.prog 33 #[.agg #[.int .i64 m, .int .i64 q, .slice pa Z.length cap], .string u] w fun e w' => e = .returned (.tuple #[.slice none 0 0, .iface 99 (.pointer (some p))]) ∧ Below w.heap.size w w' := by
  have hB0 : Below w.heap.size w (w.alloc (.cells #[.int .i64 m, .int .i64 q, .slice pa Z.length cap] 52)) := (Below.refl _ _).alloc (Nat.le_refl _) _
  have hsz : w.heap.size < (w.alloc (.cells #[.int .i64 m, .int .i64 q, .slice pa Z.length cap] 52)).heap.size := by simp
  obtain ⟨c0, c1, c2⟩ := bow_cells m q (.slice pa Z.length cap) w
  have hn : Z.length ≤ 1048576 := by have := hlo.1; omega
  have h12 : Z.length ≤ 12 := by have := hlo.1; omega
  have hv1 := hv.below hB0
  have cI := Lib.hid (indexOf_no m q pa cap Z u (w.alloc (.cells #[.int .i64 m, .int .i64 q, .slice pa Z.length cap] 52)) hn hv1 hf p (hE.1.1.1.below hB0))
  clear hv1 hv hf hE
  go_enter Tryd.func33, Tryd.ntmps33
  go_wp2_with fail
  generalize (w.alloc (.cells #[.int .i64 m, .int .i64 q, .slice pa Z.length cap] 52)) = W0 at hB0 hsz c0 c1 c2 cI ⊢
  go_wp2_with (go_at_call 42; (with_reducible refine (cI.out).mono ?_); rintro e w1 ⟨rfl, b1⟩)
  go_ret2
  exact ⟨rfl, below2 hB0 b1⟩
set_option maxHeartbeats 3200000 in
theorem wop_last (m q : Int) (pa : Option Addr) (cap : Nat) (Z : List Prt) (u : ByteArray) (p mm hh x : Addr) (hlo : bowOk Z) (w : World) (hv : PrtsAt w (.slice pa Z.length cap) Z) (hE : BowErrX w 4 p mm hh x) (hf : fdN (idP Z u) Z.length < Z.length) (h1 : Z.length = 1) : Calls Tryd.prog 33 #[.agg #[.int .i64 m, .int .i64 q, .slice pa Z.length cap], .string u] w fun e w' => e = .returned (.tuple #[.slice none 0 0, .iface 99 (.pointer (some x))]) ∧ Below w.heap.size w w' := by
  have hB0 : Below w.heap.size w (w.alloc (.cells #[.int .i64 m, .int .i64 q, .slice pa Z.length cap] 52)) := (Below.refl _ _).alloc (Nat.le_refl _) _
  have hsz : w.heap.size < (w.alloc (.cells #[.int .i64 m, .int .i64 q, .slice pa Z.length cap] 52)).heap.size := by simp
  obtain ⟨c0, c1, c2⟩ := bow_cells m q (.slice pa Z.length cap) w
  have hn : Z.length ≤ 1048576 := by have := hlo.1; omega
  have h12 : Z.length ≤ 12 := by have := hlo.1; omega
  have hv1 := hv.below hB0
  have cI0 := (indexOf_yes m q pa cap Z u (w.alloc (.cells #[.int .i64 m, .int .i64 q, .slice pa Z.length cap] 52)) hn hv1 hf)
  have hkk : Hid (∀ W, Below (w.alloc (.cells #[.int .i64 m, .int .i64 q, .slice pa Z.length cap] 52)).heap.size (w.alloc (.cells #[.int .i64 m, .int .i64 q, .slice pa Z.length cap] 52)) W → W.cell? ⟨w.heap.size, 2, none⟩ = some (.slice pa Z.length cap)) := Lib.hid (fun W hW => (hW.cell (p := ⟨w.heap.size, 2, none⟩) hsz).trans c2)
  have hEx := Lib.hid (fun W (hW : Below (w.alloc (.cells #[.int .i64 m, .int .i64 q, .slice pa Z.length cap] 52)).heap.size (w.alloc (.cells #[.int .i64 m, .int .i64 q, .slice pa Z.length cap] 52)) W) => ((hE.below hB0).below hW).2.1.1)
  obtain ⟨k, hk⟩ : ∃ k, k = fdN (idP Z u) Z.length := ⟨_, rfl⟩
  rw [← hk] at cI0 hf
  have cI := Lib.hid cI0
  have h1' := Lib.hid h1
  clear hv1 hv hE hk cI0 hf hn h12 hlo
  rw [h1] at cI hkk c0 c1 c2 hB0 hsz hEx ⊢
  go_enter Tryd.func33, Tryd.ntmps33
  clear h1
  go_wp2_with fail
  generalize (w.alloc (.cells #[.int .i64 m, .int .i64 q, .slice pa 1 cap] 52)) = W0 at hB0 hsz c0 c1 c2 cI hkk hEx ⊢
  go_wp2_with (go_at_call 42; (with_reducible refine (cI.out).mono ?_); rintro e w1 ⟨rfl, b1⟩; have j2 := hkk.out _ b1; have hE3 := hEx.out _ b1)
  go_quiet (fail)
  go_wp2
  go_ret2
  exact ⟨rfl, belowN (below2 hB0 b1) _⟩
set_option maxHeartbeats 3200000 in
theorem wop_cut (m q : Int) (pa : Option Addr) (cap : Nat) (Z : List Prt) (u : ByteArray) (p mm hh x : Addr) (hlo : bowOk Z) (w : World) (hv : PrtsAt w (.slice pa Z.length cap) Z) (hE : BowErrX w 4 p mm hh x) (hf : fdN (idP Z u) Z.length < Z.length) (h1 : Z.length ≠ 1) : Calls Tryd.prog 33 #[.agg #[.int .i64 m, .int .i64 q, .slice pa Z.length cap], .string u] w fun e w' => (∃ g n c, e = .returned (.tuple #[.slice (some ⟨g, 0, none⟩) n c, .nilIface]) ∧ OwnPrt w.heap.size (.slice (some ⟨g, 0, none⟩) n c) (cutV Z (fdN (idP Z u) Z.length)) w') ∧ Below w.heap.size w w' := by
  have hB0 : Below w.heap.size w (w.alloc (.cells #[.int .i64 m, .int .i64 q, .slice pa Z.length cap] 52)) := (Below.refl _ _).alloc (Nat.le_refl _) _
  have hsz : w.heap.size < (w.alloc (.cells #[.int .i64 m, .int .i64 q, .slice pa Z.length cap] 52)).heap.size := by simp
  obtain ⟨c0, c1, c2⟩ := bow_cells m q (.slice pa Z.length cap) w
  have hn : Z.length ≤ 1048576 := by have := hlo.1; omega
  have h12 : Z.length ≤ 12 := by have := hlo.1; omega
  have hv1 := hv.below hB0
  have cI0 := (indexOf_yes m q pa cap Z u (w.alloc (.cells #[.int .i64 m, .int .i64 q, .slice pa Z.length cap] 52)) hn hv1 hf)
  have hkk : Hid (∀ W, Below (w.alloc (.cells #[.int .i64 m, .int .i64 q, .slice pa Z.length cap] 52)).heap.size (w.alloc (.cells #[.int .i64 m, .int .i64 q, .slice pa Z.length cap] 52)) W → W.cell? ⟨w.heap.size, 2, none⟩ = some (.slice pa Z.length cap)) := Lib.hid (fun W hW => (hW.cell (p := ⟨w.heap.size, 2, none⟩) hsz).trans c2)
  have hEx := Lib.hid (fun W (hW : Below (w.alloc (.cells #[.int .i64 m, .int .i64 q, .slice pa Z.length cap] 52)).heap.size (w.alloc (.cells #[.int .i64 m, .int .i64 q, .slice pa Z.length cap] 52)) W) => ((hE.below hB0).below hW).2.1.1)
  obtain ⟨k, hk⟩ : ∃ k, k = fdN (idP Z u) Z.length := ⟨_, rfl⟩
  rw [← hk] at cI0 hf ⊢
  have cI := Lib.hid cI0
  have hlen1 : ((Z.length : Int) == 1) = false := beq_eq_false_iff_ne.2 (by omega)
  clear hv hE hk cI0 hlo
  obtain ⟨a1, c9, e1, hcap9, hids9, hread9⟩ := hv1
  injection e1 with e1 _ e2
  subst e1; subst e2
  rcases hread9 with h | ⟨g0, o, rfl, hg0, hc⟩
  · subst h; simp at hf
  have hsr := Lib.hid (prts_src hc)
  have hids := Lib.hid (cutV_ids (k := k) hids9)
  clear hc hids9
  go_enter Tryd.func33, Tryd.ntmps33
  go_wp2_with fail
  generalize (w.alloc (.cells #[.int .i64 m, .int .i64 q, .slice (some ⟨g0, o, none⟩) Z.length cap] 52)) = W0 at hB0 hsz c0 c1 c2 cI hkk hEx hsr hg0 ⊢
  go_wp2_with (go_at_call 42; (with_reducible refine (cI.out).mono ?_); rintro e w1 ⟨rfl, b1⟩; have j2 := hkk.out _ b1)
  by_cases hck : cap = k + 1
  · have hzk : Z.length - (k + 1) = 0 := by omega
    have hdn : prt_flat (Z.drop (k + 1)) = [] := List.eq_nil_of_length_eq_zero (by rw [prt_flat_len, List.length_drop, hzk])
    have cC : Hid (∀ W, Below W0.heap.size W0 W → Calls Tryd.prog 46 #[.slice (some ⟨W.heap.size, 0, none⟩) 2 2] (W.alloc (.cells #[.slice (some ⟨g0, o, none⟩) k (k + 1), .slice (some ⟨g0, o, none⟩) 0 0] 26)) fun e w' => (∃ g n c, e = .returned (.slice (some ⟨g, 0, none⟩) n c) ∧ OwnPrt w.heap.size (.slice (some ⟨g, 0, none⟩) n c) (cutV Z k) w') ∧ Below w.heap.size w w') := Lib.hid (fun W hW => by
      have hbw : Below W0.heap.size W0 (W.alloc (.cells #[.slice (some ⟨g0, o, none⟩) k (k + 1), .slice (some ⟨g0, o, none⟩) 0 0] 26)) := hW.alloc hW.size _
      have hsA : (Z.take k).length = k := by rw [List.length_take]; omega
      have hsB : (Z.drop (k + 1)).length = 0 := by rw [List.length_drop]; omega
      refine (concatPrt_any W.heap.size g0 o k (k + 1) g0 (o) 0 0 (Z.take k) (Z.drop (k + 1)) (W.alloc (.cells #[.slice (some ⟨g0, o, none⟩) k (k + 1), .slice (some ⟨g0, o, none⟩) 0 0] 26)) hsA hsB (by omega) (by omega) (by simp) (cellB (heap_alloc_new _ _) 0 _ rfl) (cellB (heap_alloc_new _ _) 1 _ rfl) (Nat.lt_of_lt_of_le hg0 hbw.size) (Nat.lt_of_lt_of_le hg0 hbw.size) (fun j u hj => (hbw.cell (p := ⟨g0, _, none⟩) hg0).trans (hsr.out j u (prts_take (by omega) j u hj))) (fun j u hj => by rw [hdn] at hj; cases hj) hids.out).mono ?_
      rintro e w9 ⟨⟨g, c, rfl, hO⟩, b9⟩
      exact ⟨⟨g, _, c, rfl, hO.low (Nat.le_trans hB0.size hbw.size)⟩, below2 (below2 hB0 hbw) b9⟩)
    have hkA : (k : Int) ≤ (k : Int) + 1 := by omega
    have hkB : (k : Int) ≤ ((k + 1 : Nat) : Int) := by omega
    have hkC : k ≤ k + 1 := by omega
    have hkD : (Z.length : Int) ≤ (k : Int) + 1 ∨ True := Or.inr trivial
    have hkc : k ≤ cap := by omega
    have hkcI : (k : Int) ≤ (cap : Int) := by omega
    have hk0 : (0 : Int) ≤ (k : Int) := by omega
    have hkl : (k : Int) + 1 ≤ (Z.length : Int) := by omega
    have hlc : (Z.length : Int) ≤ (cap : Int) := by omega
    have hw1 : IntKind.i64.wrap ((k : Int) + 1) = (k : Int) + 1 := IntWalk.i64_in _ (by omega)
    have hk1 : (0 : Int) ≤ (k : Int) + 1 := by omega
    have htn : ((k : Int) + 1).toNat = k + 1 := by omega
    go_still_tail 9, (by kernel_rfl)
    change wpList _ _ _ _ _ w1.drew
    have b2 : Below W0.heap.size W0 w1.drew := belowN b1 1
    generalize w1.drew = w2 at b2 ⊢
    go_wp2_with (go_at_call 46; (with_reducible refine (cC.out _ b2).mono ?_); rintro e w3 ⟨⟨g, n, c, rfl, hO⟩, b3⟩)
    go_ret2
    exact ⟨⟨g, n, c, rfl, hO⟩, b3⟩
  · have hsr2 := Lib.hid (fun j u hj => hsr.out _ u (prts_drop (Z := Z) (k := k + 1) (by omega) j u hj))
    have cC : Hid (∀ W, Below W0.heap.size W0 W → Calls Tryd.prog 46 #[.slice (some ⟨W.heap.size, 0, none⟩) 2 2] (W.alloc (.cells #[.slice (some ⟨g0, o, none⟩) k cap, .slice (some ⟨g0, o + (k + 1) * 3, none⟩) (Z.length - (k + 1)) (cap - (k + 1))] 26)) fun e w' => (∃ g n c, e = .returned (.slice (some ⟨g, 0, none⟩) n c) ∧ OwnPrt w.heap.size (.slice (some ⟨g, 0, none⟩) n c) (cutV Z k) w') ∧ Below w.heap.size w w') := Lib.hid (fun W hW => by
      have hbw : Below W0.heap.size W0 (W.alloc (.cells #[.slice (some ⟨g0, o, none⟩) k cap, .slice (some ⟨g0, o + (k + 1) * 3, none⟩) (Z.length - (k + 1)) (cap - (k + 1))] 26)) := hW.alloc hW.size _
      have hsA : (Z.take k).length = k := by rw [List.length_take]; omega
      have hsB : (Z.drop (k + 1)).length = (Z.length - (k + 1)) := by rw [List.length_drop]
      refine (concatPrt_any W.heap.size g0 o k cap g0 (o + (k + 1) * 3) (Z.length - (k + 1)) (cap - (k + 1)) (Z.take k) (Z.drop (k + 1)) (W.alloc (.cells #[.slice (some ⟨g0, o, none⟩) k cap, .slice (some ⟨g0, o + (k + 1) * 3, none⟩) (Z.length - (k + 1)) (cap - (k + 1))] 26)) hsA hsB (by omega) (by omega) (by simp) (cellB (heap_alloc_new _ _) 0 _ rfl) (cellB (heap_alloc_new _ _) 1 _ rfl) (Nat.lt_of_lt_of_le hg0 hbw.size) (Nat.lt_of_lt_of_le hg0 hbw.size) (fun j u hj => (hbw.cell (p := ⟨g0, _, none⟩) hg0).trans (hsr.out j u (prts_take (by omega) j u hj))) (fun j u hj => by rw [show o + (k + 1) * 3 + j = o + ((k + 1) * 3 + j) by omega]; exact (hbw.cell (p := ⟨g0, _, none⟩) hg0).trans (hsr2.out j u hj)) hids.out).mono ?_
      rintro e w9 ⟨⟨g, c, rfl, hO⟩, b9⟩
      exact ⟨⟨g, _, c, rfl, hO.low (Nat.le_trans hB0.size hbw.size)⟩, below2 (below2 hB0 hbw) b9⟩)
    have hkA : (k : Int) ≤ (k : Int) + 1 := by omega
    have hkB : (k : Int) ≤ ((k + 1 : Nat) : Int) := by omega
    have hkC : k ≤ k + 1 := by omega
    have hkD : (Z.length : Int) ≤ (k : Int) + 1 ∨ True := Or.inr trivial
    have hkc : k ≤ cap := by omega
    have hkcI : (k : Int) ≤ (cap : Int) := by omega
    have hk0 : (0 : Int) ≤ (k : Int) := by omega
    have hkl : (k : Int) + 1 ≤ (Z.length : Int) := by omega
    have hlc : (Z.length : Int) ≤ (cap : Int) := by omega
    have hw1 : IntKind.i64.wrap ((k : Int) + 1) = (k : Int) + 1 := IntWalk.i64_in _ (by omega)
    have hk1 : (0 : Int) ≤ (k : Int) + 1 := by omega
    have htn : ((k : Int) + 1).toNat = k + 1 := by omega
    go_still_tail 9, (by kernel_rfl)
    change wpList _ _ _ _ _ w1.drew
    have b2 : Below W0.heap.size W0 w1.drew := belowN b1 1
    generalize w1.drew = w2 at b2 ⊢
    go_wp2_with (go_at_call 46; (with_reducible refine (cC.out _ b2).mono ?_); rintro e w3 ⟨⟨g, n, c, rfl, hO⟩, b3⟩)
    go_ret2
    exact ⟨⟨g, n, c, rfl, hO⟩, b3⟩
set_option maxHeartbeats 3200000 in
theorem implWithoutPart_any (v : Value) (Z : List Prt) (u : ByteArray) (w : World) (hn : Z.length ≤ 1048576) (hv : PrtsAt w v Z) (p mm hh x : Addr) (hE : BowErrX w 4 p mm hh x) : Calls Tryd.prog 14 #[v, .string u] w (RowPrt (woV Z u) (woC Z u) w) := by
  have cV := implValidBow_any v Z w hn hv
  cases h1 : bowB Z <;> rw [h1] at cV <;> replace cV := Lib.hid cV
  · have hr := Lib.hid (wo_1 (u := u) h1)
    go_enter Tryd.func14, Tryd.ntmps14
    go_wp2_with (go_at_call 32; (with_reducible refine (cV.out).mono ?_); rintro e w1 ⟨rfl, b1⟩)
    go_ret2
    exact prt_rowNil hr.out.1 hr.out.2 b1
  have hlo := Lib.hid (bow_ok h1)
  have hv' := Lib.hid hv
  obtain ⟨m, hm0⟩ : ∃ m, m = sumF (masF Z) Z.length := ⟨_, rfl⟩
  obtain ⟨q, hq0⟩ : ∃ q, q = sumF (momF Z) Z.length := ⟨_, rfl⟩
  have hm := Lib.hid hm0
  have hq := Lib.hid hq0
  have hE' := Lib.hid hE
  obtain ⟨p9, cap9, rfl, hcap9, hids9, hread9⟩ := hv
  clear hm0 hq0 hE hcap9 hids9 hread9
  by_cases hf : fdN (idP Z u) Z.length < Z.length
  rotate_left
  · have hr := Lib.hid (wo_3 h1 hf)
    have cA := Lib.hid (fun W (hW : Below w.heap.size w W) => wop_no m q p9 cap9 Z u p mm hh x hlo.out W (hv'.out.below hW) (hE'.out.below hW) hf)
    have cO : Hid (∀ W, Below w.heap.size w W → Calls Tryd.prog 28 #[.iface 99 (.pointer (some p))] W fun e w' => e = .returned (.int .i64 3) ∧ w' = W) := Lib.hid (fun W hW => codeOf_p p mm hh W ((hE'.out.below hW).1))
    clear hf h1
    go_enter Tryd.func14, Tryd.ntmps14
    go_wp2_with (first
      | (go_at_call 32; (with_reducible refine (cV.out).mono ?_); rintro e w1 ⟨rfl, b1⟩)
      | (go_at_call 26; (with_reducible refine (bowOf_num _ Z m q _ hlo.out (hv'.out.below b1) hm.out hq.out).mono ?_); rintro e w2 ⟨rfl, b2⟩; have b12 := below2 b1 b2)
      | (go_at_call 33; (with_reducible refine (cA.out _ b12).mono ?_); rintro e w3 ⟨rfl, b3⟩; have b13 := below2 b12 b3)
      | (go_at_call 28; (with_reducible refine (cO.out _ b13).mono ?_); rintro e w' ⟨rfl, rfl⟩))
    go_ret2
    exact prt_rowNil hr.out.1 hr.out.2 b13
  by_cases hz : Z.length = 1
  · have hr := Lib.hid (wo_6 h1 hf hz)
    have cA := Lib.hid (fun W (hW : Below w.heap.size w W) => wop_last m q p9 cap9 Z u p mm hh x hlo.out W (hv'.out.below hW) (hE'.out.below hW) hf hz)
    have cO : Hid (∀ W, Below w.heap.size w W → Calls Tryd.prog 28 #[.iface 99 (.pointer (some x))] W fun e w' => e = .returned (.int .i64 6) ∧ w' = W) := Lib.hid (fun W hW => codeOf_x p mm hh W _ x (hE'.out.below hW))
    clear hf h1 hz
    go_enter Tryd.func14, Tryd.ntmps14
    go_wp2_with (first
      | (go_at_call 32; (with_reducible refine (cV.out).mono ?_); rintro e w1 ⟨rfl, b1⟩)
      | (go_at_call 26; (with_reducible refine (bowOf_num _ Z m q _ hlo.out (hv'.out.below b1) hm.out hq.out).mono ?_); rintro e w2 ⟨rfl, b2⟩; have b12 := below2 b1 b2)
      | (go_at_call 33; (with_reducible refine (cA.out _ b12).mono ?_); rintro e w3 ⟨rfl, b3⟩; have b13 := below2 b12 b3)
      | (go_at_call 28; (with_reducible refine (cO.out _ b13).mono ?_); rintro e w' ⟨rfl, rfl⟩))
    go_ret2
    exact prt_rowNil hr.out.1 hr.out.2 b13
  have hr := Lib.hid (wo_0 h1 hf hz)
  have cA := Lib.hid (fun W (hW : Below w.heap.size w W) => wop_cut m q p9 cap9 Z u p mm hh x hlo.out W (hv'.out.below hW) (hE'.out.below hW) hf hz)
  have cO : Hid (∀ W, Below w.heap.size w W → Calls Tryd.prog 28 #[.nilIface] W fun e w' => e = .returned (.int .i64 0) ∧ w' = W) := Lib.hid (fun W hW => codeOf_nil W)
  clear hf h1 hz
  go_enter Tryd.func14, Tryd.ntmps14
  go_wp2_with (first
      | (go_at_call 32; (with_reducible refine (cV.out).mono ?_); rintro e w1 ⟨rfl, b1⟩)
      | (go_at_call 26; (with_reducible refine (bowOf_num _ Z m q _ hlo.out (hv'.out.below b1) hm.out hq.out).mono ?_); rintro e w2 ⟨rfl, b2⟩; have b12 := below2 b1 b2)
      | (go_at_call 33; (with_reducible refine (cA.out _ b12).mono ?_); rintro e w3 ⟨⟨g9, n9, c9, rfl, hO⟩, b3⟩; have b13 := below2 b12 b3)
      | (go_at_call 28; (with_reducible refine (cO.out _ b13).mono ?_); rintro e w' ⟨rfl, rfl⟩))
  go_ret2
  exact prt_rowMk hr.out.1 hr.out.2 b12.size hO b13
end Go.Proofs.YtmhiekfnkbldeaaDoor
