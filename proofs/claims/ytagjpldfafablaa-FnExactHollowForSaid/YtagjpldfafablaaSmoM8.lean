/-
  Smooth heights: the model.
-/
import Derived.Test.YtagjpldfafablaaSmoA8
import Derived.Test.YtagjpldfafablaaAro8
namespace Go.Proofs.Ytagjpldfafablaa
open Go.ChangeShapes Go.WideShapes Go.ChangeAt Go.RowKit Go.Deep
set_option linter.unusedVariables false
set_option linter.unusedSimpArgs false
theorem OwnG.place {lo hi i k : Nat} {w : World} {v : Value} {G : List (List Int)} {vs : List Value} {z : Int} (h : OwnG lo hi w v G vs) (hi' : i < G.length) (hk : k < (G[i]).length) (hz : inI z) :
    ∃ gt cap g9 n9 cap9, v = .slice (some ⟨gt, 0, none⟩) G.length cap ∧ n9 = (G[i]).length ∧ lo ≤ g9 ∧ g9 < hi ∧ ∀ w', Below w.heap.size w w' → w'.cell? ⟨gt, i, none⟩ = some (.slice (some ⟨g9, 0, none⟩) n9 cap9) ∧ w'.cell? ⟨g9, k, none⟩ = some (encI ((G[i])[k])) ∧ w'.frozen? ⟨g9, k, none⟩ = false ∧ Hid (OwnG lo hi (w'.setCell ⟨g9, k, none⟩ (.int .i64 z)) v (G.set i ((G[i]).set k z)) vs) ∧ Hid (w'.grownBy (w'.setCell ⟨g9, k, none⟩ (.int .i64 z)) (some g9)) := by
  obtain ⟨gt, cap, rfl⟩ : ∃ gt cap, v = .slice (some ⟨gt, 0, none⟩) G.length cap := by
    obtain ⟨a, cap, rfl⟩ := own_shape h.top
    rcases h.top.2 with ⟨_, h2⟩ | ⟨g, cap', cur, hv, _⟩
    · omega
    · injection hv with h1 _ _; exact ⟨g, cap, by rw [h1]⟩
  obtain ⟨g9, n9, cap9, hu, hn9, _, _, hlo, hhi, _, _⟩ := h.set hi' hk hz (by decide)
  refine ⟨gt, cap, g9, n9, cap9, rfl, hn9, hlo, hhi, fun w' hw => ?_⟩
  have h2 := h.kept hw
  obtain ⟨g9', n9', cap9', hu', hn9', q1, q2, _, _, q3, q4⟩ := h2.set hi' hk hz (by decide)
  rw [hu] at hu'
  injection hu' with hu'
  injection hu' with e1 e2 e3
  injection e1 with e1
  injection e1 with e1
  subst e1
  exact ⟨(h2.cellAt rfl hi').trans hu, q1, q2, Lib.hid q3, Lib.hid q4⟩
theorem gridF_len (R C : Nat) (f : Nat → Nat → Int) : (gridF R C f).length = R := by simp [gridF]
theorem gridF_row {R C : Nat} {f : Nat → Nat → Int} {i : Nat} (hi : i < (gridF R C f).length) : (gridF R C f)[i] = (List.range C).map fun k => f i k := by simp [gridF]
theorem gridF_set {R C : Nat} {f : Nat → Nat → Int} {i k : Nat} (hi : i < (gridF R C f).length) (z : Int) : (gridF R C f).set i (((gridF R C f)[i]).set k z) = gridF R C (fun a b => if a = i ∧ b = k then z else f a b) := by
  refine List.ext_getElem (by simp [gridF]) (fun a h1 h2 => ?_)
  rw [gridF_row h2]
  by_cases e : i = a
  · subst e
    rw [List.getElem_set_self, gridF_row hi]
    refine List.ext_getElem (by simp) (fun b h3 h4 => ?_)
    by_cases e2 : k = b
    · subst e2; simp
    · rw [List.getElem_set_ne e2]; simp; intro hb; exact absurd hb.symm e2
  · rw [List.getElem_set_ne e, gridF_row]
    refine List.map_congr_left (fun b hb => ?_)
    rw [if_neg (fun h => e h.1.symm)]
theorem gridF_congr {R C : Nat} {f f' : Nat → Nat → Int} (h : ∀ i k, i < R → k < C → f i k = f' i k) : gridF R C f = gridF R C f' := by
  unfold gridF
  exact List.map_congr_left (fun i hi => List.map_congr_left (fun k hk => h i k (List.mem_range.1 hi) (List.mem_range.1 hk)))
def sumL (L : List Int) : Int := L.foldl (· + ·) 0
theorem sumL_app (L : List Int) (x : Int) : sumL (L ++ [x]) = sumL L + x := by unfold sumL; rw [List.foldl_append]; rfl
theorem smS_aro (R C : Nat) (h : Nat → Nat → Int) (i k : Nat) : smS h (nbL R C i k) = sumL (aroL R C h i k) := by
  have e : aroL R C h i k = (((aro4 R C h i k 0 ++ aro4 R C h i k 1) ++ aro4 R C h i k 2) ++ aro4 R C h i k 3) := by
    unfold aroL
    rw [aroT_next, aroT_next, aroT_next, aroT_next]
    simp [aroT]
  have e2 : nbL R C i k = (nb4 R C i k 0).toList ++ ((nb4 R C i k 1).toList ++ ((nb4 R C i k 2).toList ++ (nb4 R C i k 3).toList)) := by
    unfold nbL nbT
    rw [show List.range 4 = [0, 1, 2, 3] from rfl]
    simp only [List.filterMap_cons, List.filterMap_nil]
    cases nb4 R C i k 0 <;> cases nb4 R C i k 1 <;> cases nb4 R C i k 2 <;> cases nb4 R C i k 3 <;> rfl
  rw [e, e2]
  unfold smS sumL
  simp only [nb4, aro4]
  by_cases c0 : 0 < i <;> by_cases c1 : i + 1 < R <;> by_cases c2 : 0 < k <;> by_cases c3 : k + 1 < C
  · rw [if_pos (show 1 ≤ i by omega), if_pos (show 1 ≤ k by omega), if_pos (show k + 1 < C by omega), if_pos (show i + 1 < R by omega), if_pos (show 0 < i by omega), if_pos (show 0 < k by omega)]
    try rw [if_pos (show i + 1 < R by omega)]
    try rw [if_pos (show k + 1 < C by omega)]
    simp <;> omega
  · rw [if_pos (show 1 ≤ i by omega), if_pos (show 1 ≤ k by omega), if_neg (show ¬ k + 1 < C by omega), if_pos (show i + 1 < R by omega), if_pos (show 0 < i by omega), if_pos (show 0 < k by omega)]
    try rw [if_pos (show i + 1 < R by omega)]
    try rw [if_neg (show ¬ k + 1 < C by omega)]
    simp <;> omega
  · rw [if_pos (show 1 ≤ i by omega), if_neg (show ¬ 1 ≤ k by omega), if_pos (show k + 1 < C by omega), if_pos (show i + 1 < R by omega), if_pos (show 0 < i by omega), if_neg (show ¬ 0 < k by omega)]
    try rw [if_pos (show i + 1 < R by omega)]
    try rw [if_pos (show k + 1 < C by omega)]
    simp <;> omega
  · rw [if_pos (show 1 ≤ i by omega), if_neg (show ¬ 1 ≤ k by omega), if_neg (show ¬ k + 1 < C by omega), if_pos (show i + 1 < R by omega), if_pos (show 0 < i by omega), if_neg (show ¬ 0 < k by omega)]
    try rw [if_pos (show i + 1 < R by omega)]
    try rw [if_neg (show ¬ k + 1 < C by omega)]
    simp <;> omega
  · rw [if_pos (show 1 ≤ i by omega), if_pos (show 1 ≤ k by omega), if_pos (show k + 1 < C by omega), if_neg (show ¬ i + 1 < R by omega), if_pos (show 0 < i by omega), if_pos (show 0 < k by omega)]
    try rw [if_neg (show ¬ i + 1 < R by omega)]
    try rw [if_pos (show k + 1 < C by omega)]
    simp <;> omega
  · rw [if_pos (show 1 ≤ i by omega), if_pos (show 1 ≤ k by omega), if_neg (show ¬ k + 1 < C by omega), if_neg (show ¬ i + 1 < R by omega), if_pos (show 0 < i by omega), if_pos (show 0 < k by omega)]
    try rw [if_neg (show ¬ i + 1 < R by omega)]
    try rw [if_neg (show ¬ k + 1 < C by omega)]
    simp <;> omega
  · rw [if_pos (show 1 ≤ i by omega), if_neg (show ¬ 1 ≤ k by omega), if_pos (show k + 1 < C by omega), if_neg (show ¬ i + 1 < R by omega), if_pos (show 0 < i by omega), if_neg (show ¬ 0 < k by omega)]
    try rw [if_neg (show ¬ i + 1 < R by omega)]
    try rw [if_pos (show k + 1 < C by omega)]
    simp <;> omega
  · rw [if_pos (show 1 ≤ i by omega), if_neg (show ¬ 1 ≤ k by omega), if_neg (show ¬ k + 1 < C by omega), if_neg (show ¬ i + 1 < R by omega), if_pos (show 0 < i by omega), if_neg (show ¬ 0 < k by omega)]
    try rw [if_neg (show ¬ i + 1 < R by omega)]
    try rw [if_neg (show ¬ k + 1 < C by omega)]
    simp <;> omega
  · rw [if_neg (show ¬ 1 ≤ i by omega), if_pos (show 1 ≤ k by omega), if_pos (show k + 1 < C by omega), if_pos (show i + 1 < R by omega), if_neg (show ¬ 0 < i by omega), if_pos (show 0 < k by omega)]
    try rw [if_pos (show i + 1 < R by omega)]
    try rw [if_pos (show k + 1 < C by omega)]
    simp <;> omega
  · rw [if_neg (show ¬ 1 ≤ i by omega), if_pos (show 1 ≤ k by omega), if_neg (show ¬ k + 1 < C by omega), if_pos (show i + 1 < R by omega), if_neg (show ¬ 0 < i by omega), if_pos (show 0 < k by omega)]
    try rw [if_pos (show i + 1 < R by omega)]
    try rw [if_neg (show ¬ k + 1 < C by omega)]
    simp <;> omega
  · rw [if_neg (show ¬ 1 ≤ i by omega), if_neg (show ¬ 1 ≤ k by omega), if_pos (show k + 1 < C by omega), if_pos (show i + 1 < R by omega), if_neg (show ¬ 0 < i by omega), if_neg (show ¬ 0 < k by omega)]
    try rw [if_pos (show i + 1 < R by omega)]
    try rw [if_pos (show k + 1 < C by omega)]
    simp <;> omega
  · rw [if_neg (show ¬ 1 ≤ i by omega), if_neg (show ¬ 1 ≤ k by omega), if_neg (show ¬ k + 1 < C by omega), if_pos (show i + 1 < R by omega), if_neg (show ¬ 0 < i by omega), if_neg (show ¬ 0 < k by omega)]
    try rw [if_pos (show i + 1 < R by omega)]
    try rw [if_neg (show ¬ k + 1 < C by omega)]
    simp <;> omega
  · rw [if_neg (show ¬ 1 ≤ i by omega), if_pos (show 1 ≤ k by omega), if_pos (show k + 1 < C by omega), if_neg (show ¬ i + 1 < R by omega), if_neg (show ¬ 0 < i by omega), if_pos (show 0 < k by omega)]
    try rw [if_neg (show ¬ i + 1 < R by omega)]
    try rw [if_pos (show k + 1 < C by omega)]
    simp <;> omega
  · rw [if_neg (show ¬ 1 ≤ i by omega), if_pos (show 1 ≤ k by omega), if_neg (show ¬ k + 1 < C by omega), if_neg (show ¬ i + 1 < R by omega), if_neg (show ¬ 0 < i by omega), if_pos (show 0 < k by omega)]
    try rw [if_neg (show ¬ i + 1 < R by omega)]
    try rw [if_neg (show ¬ k + 1 < C by omega)]
    simp <;> omega
  · rw [if_neg (show ¬ 1 ≤ i by omega), if_neg (show ¬ 1 ≤ k by omega), if_pos (show k + 1 < C by omega), if_neg (show ¬ i + 1 < R by omega), if_neg (show ¬ 0 < i by omega), if_neg (show ¬ 0 < k by omega)]
    try rw [if_neg (show ¬ i + 1 < R by omega)]
    try rw [if_pos (show k + 1 < C by omega)]
    simp <;> omega
  · rw [if_neg (show ¬ 1 ≤ i by omega), if_neg (show ¬ 1 ≤ k by omega), if_neg (show ¬ k + 1 < C by omega), if_neg (show ¬ i + 1 < R by omega), if_neg (show ¬ 0 < i by omega), if_neg (show ¬ 0 < k by omega)]
    try rw [if_neg (show ¬ i + 1 < R by omega)]
    try rw [if_neg (show ¬ k + 1 < C by omega)]
    simp <;> omega
end Go.Proofs.Ytagjpldfafablaa
