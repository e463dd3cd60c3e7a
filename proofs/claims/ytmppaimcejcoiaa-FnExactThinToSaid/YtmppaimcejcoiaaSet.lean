/-
  One place of a grid is set.
-/
import Derived.Test.YtmppaimcejcoiaaNeu
namespace Go.Proofs.Ytmppaimcejcoiaa
open Go.ChangeShapes Go.WideShapes Go.ChangeAt Go.RowKit Go.Deep
set_option linter.unusedVariables false
set_option linter.unusedSimpArgs false
set_option maxHeartbeats 3200000 in
theorem set_any (lo hi i k : Nat) (w : World) (v : Value) (G : List (List Int)) (vs : List Value) (z : Int) (h : OwnG lo hi w v G vs) (hi' : i < G.length) (hk : k < (G[i]).length) (hz : inI z) :
    Calls Try.prog 63 #[v, .agg #[.int .i64 (i : Int), .int .i64 (k : Int)], .int .i64 z] w fun e w' => e = .returned (.tuple #[]) ∧ OwnG lo hi w' v (G.set i ((G[i]).set k z)) vs ∧ ∃ g9 w1, lo ≤ g9 ∧ g9 < hi ∧ Below w.heap.size w w1 ∧ w1.grownBy w' (some g9) ∧ ∃ o, w1.heap[g9]? = some o ∧ o.isCells = true := by
  obtain ⟨gt, cap, rfl⟩ : ∃ gt cap, v = .slice (some ⟨gt, 0, none⟩) G.length cap := by
    obtain ⟨a, cap, rfl⟩ := own_shape h.top
    rcases h.top.2 with ⟨_, h2⟩ | ⟨g, cap', cur, hv, _⟩
    · omega
    · injection hv with h1 _ _; exact ⟨g, cap, by rw [h1]⟩
  obtain ⟨g9, n9, cap9, hu, hn9, x1, x2, hlo, hhi, x3, x4⟩ := h.set hi' hk hz (by decide)
  have key : Hid (∀ w', Below w.heap.size w w' → w'.cell? ⟨gt, i, none⟩ = some (.slice (some ⟨g9, 0, none⟩) n9 cap9) ∧ (∃ y, w'.cell? ⟨g9, k, none⟩ = some y) ∧ w'.frozen? ⟨g9, k, none⟩ = false ∧ Hid (OwnG lo hi (w'.setCell ⟨g9, k, none⟩ (.int .i64 z)) (.slice (some ⟨gt, 0, none⟩) G.length cap) (G.set i ((G[i]).set k z)) vs) ∧ Hid (w'.grownBy (w'.setCell ⟨g9, k, none⟩ (.int .i64 z)) (some g9)) ∧ Hid (∃ o, w'.heap[g9]? = some o ∧ o.isCells = true)) := Lib.hid (fun w' hw => by
    have h2 := h.kept hw
    have hcl := own_isCells (h2.row i _ _ hu (List.getElem?_eq_getElem hi')) (k := g9) rfl
    obtain ⟨g9', n9', cap9', hu', hn9', q1, q2, _, _, q3, q4⟩ := h2.set hi' hk hz (by decide)
    rw [hu] at hu'
    injection hu' with hu'
    injection hu' with e1 e2 e3
    injection e1 with e1
    injection e1 with e1
    subst e1
    exact ⟨(h2.cellAt rfl hi').trans hu, ⟨_, q1⟩, q2, Lib.hid q3, Lib.hid q4, Lib.hid hcl⟩)
  have hiI : (i : Int) < (G.length : Int) := by omega
  have hkI : (k : Int) < (n9 : Int) := by omega
  obtain ⟨n, hn⟩ : ∃ n, n = G.length := ⟨_, rfl⟩
  obtain ⟨G9, hG9⟩ : ∃ X, X = G.set i ((G[i]).set k z) := ⟨_, rfl⟩
  rw [← hn] at hiI key ⊢
  rw [← hG9] at key ⊢
  have hlo' := Lib.hid hlo
  have hhi' := Lib.hid hhi
  clear x1 x2 x3 x4 h hu hn9 hlo hhi hn hG9 hi' hk hz
  go_enter Try.func63, Try.ntmps63
  go_wp2_with fail
  have k0 := cellB (heap_alloc_new w (.cells #[.int .i64 (i : Int), .int .i64 (k : Int)] 57)) 0 _ rfl
  have k1 := cellB (heap_alloc_new w (.cells #[.int .i64 (i : Int), .int .i64 (k : Int)] 57)) 1 _ rfl
  have hlt : w.heap.size < (w.alloc (.cells #[.int .i64 (i : Int), .int .i64 (k : Int)] 57)).heap.size := by simp
  have hB : Below w.heap.size w (w.alloc (.cells #[.int .i64 (i : Int), .int .i64 (k : Int)] 57)) := (Below.refl _ _).alloc (Nat.le_refl _) _
  obtain ⟨b, hb⟩ : ∃ b, b = w.heap.size := ⟨_, rfl⟩
  rw [← hb] at k0 k1 hlt ⊢
  have hB' := Lib.hid hB
  clear hB hb
  generalize w.alloc (.cells #[.int .i64 (i : Int), .int .i64 (k : Int)] 57) = W at k0 k1 hlt hB' ⊢
  have open0 : Hid (∀ w', Below W.heap.size W w' → w'.cell? ⟨b, 0, none⟩ = some (.int .i64 (i : Int)) ∧ w'.cell? ⟨b, 1, none⟩ = some (.int .i64 (k : Int)) ∧ w'.cell? ⟨gt, i, none⟩ = some (.slice (some ⟨g9, 0, none⟩) n9 cap9)) := Lib.hid (fun w' hw' => ⟨(hw'.cell (p := ⟨b, 0, none⟩) hlt).trans k0, (hw'.cell (p := ⟨b, 1, none⟩) hlt).trans k1, (key.out w' (below2 hB'.out hw')).1⟩)
  clear k0 k1 hlt
  refine wp_calm 9 (fun w' => Below W.heap.size W w') (by kernel_rfl) (by kernel_rfl) (by kernel_rfl) (by kernel_rfl) (belowN (Below.refl _ _) 1) ?_
  simp only [List.take_succ_cons, List.take_zero, List.drop_succ_cons, List.drop_zero]
  refine calm_take (v := ?vy33) (by rfl) ?ey33 ?ry33
  case ey33 => (intro w' hw'; obtain ⟨c0, c1, c2⟩ := open0.out w' hw'; go_simp; try with_reducible rfl)
  try simp only [Act.put, List.setIfInBounds_toArray, List.set_cons_zero, List.set_cons_succ]
  refine calm_take (v := ?vy34) (by rfl) ?ey34 ?ry34
  case ey34 => (intro w' hw'; obtain ⟨c0, c1, c2⟩ := open0.out w' hw'; go_simp; try with_reducible rfl)
  try simp only [Act.put, List.setIfInBounds_toArray, List.set_cons_zero, List.set_cons_succ]
  refine calm_take (v := ?vy35) (by rfl) ?ey35 ?ry35
  case ey35 => (intro w' hw'; obtain ⟨c0, c1, c2⟩ := open0.out w' hw'; go_simp; try with_reducible rfl)
  try simp only [Act.put, List.setIfInBounds_toArray, List.set_cons_zero, List.set_cons_succ]
  refine calm_take (v := ?vy36) (by rfl) ?ey36 ?ry36
  case ey36 => (intro w' hw'; obtain ⟨c0, c1, c2⟩ := open0.out w' hw'; go_simp; try with_reducible rfl)
  try simp only [Act.put, List.setIfInBounds_toArray, List.set_cons_zero, List.set_cons_succ]
  refine calm_take (v := ?vy37) (by rfl) ?ey37 ?ry37
  case ey37 => (intro w' hw'; obtain ⟨c0, c1, c2⟩ := open0.out w' hw'; go_simp; try with_reducible rfl)
  try simp only [Act.put, List.setIfInBounds_toArray, List.set_cons_zero, List.set_cons_succ]
  refine calm_take (v := ?vy38) (by rfl) ?ey38 ?ry38
  case ey38 => (intro w' hw'; obtain ⟨c0, c1, c2⟩ := open0.out w' hw'; go_simp; try with_reducible rfl)
  try simp only [Act.put, List.setIfInBounds_toArray, List.set_cons_zero, List.set_cons_succ]
  refine calm_take (v := ?vy39) (by rfl) ?ey39 ?ry39
  case ey39 => (intro w' hw'; obtain ⟨c0, c1, c2⟩ := open0.out w' hw'; go_simp; try with_reducible rfl)
  try simp only [Act.put, List.setIfInBounds_toArray, List.set_cons_zero, List.set_cons_succ]
  refine calm_take (v := ?vy40) (by rfl) ?ey40 ?ry40
  case ey40 => (intro w' hw'; obtain ⟨c0, c1, c2⟩ := open0.out w' hw'; go_simp; try with_reducible rfl)
  try simp only [Act.put, List.setIfInBounds_toArray, List.set_cons_zero, List.set_cons_succ]
  refine calm_take (v := ?vy41) (by rfl) ?ey41 ?ry41
  case ey41 => (intro w' hw'; obtain ⟨c0, c1, c2⟩ := open0.out w' hw'; go_simp; try with_reducible rfl)
  try simp only [Act.put, List.setIfInBounds_toArray, List.set_cons_zero, List.set_cons_succ]
  refine wpQuiet_nil (fun w' hw' => ?_)
  obtain ⟨q1, ⟨y, q2⟩, q3, q4, q5, q6⟩ := key.out w' (below2 hB'.out hw')
  clear key open0
  have hBw := Lib.hid (below2 hB'.out hw')
  clear hw' hB'
  go_wp2
  refine bodyPost_end (v := .tuple #[]) (results_none rfl _ _ _) rfl ?_
  exact ⟨rfl, q4.out, g9, w', hlo'.out, hhi'.out, hBw.out, q5.out, q6.out⟩
end Go.Proofs.Ytmppaimcejcoiaa
