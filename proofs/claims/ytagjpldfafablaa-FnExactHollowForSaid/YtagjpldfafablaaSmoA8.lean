/-
  Smooth heights: the program's answer; the model's copy of a grid.
-/
import Derived.Test.YtagjpldfafablaaSmo8
import Derived.Test.YtagjpldfafablaaAro8
namespace Go.Proofs.Ytagjpldfafablaa
open Go.ChangeShapes Go.WideShapes Go.ChangeAt Go.RowKit Go.Deep
set_option linter.unusedVariables false
set_option linter.unusedSimpArgs false
attribute [local go_sem] Oper.semAt_some
def gridF (R C : Nat) (f : Nat → Nat → Int) : List (List Int) := (List.range R).map fun i => (List.range C).map fun k => f i k
def smV (G : List (List Int)) : List (List Int) := if okG G then gridF G.length (colsG G) (smF G.length (colsG G) (hG G)) else []
theorem gridF_tot (R C : Nat) (f : Nat → Nat → Int) : totL (gridF R C f) = R * C := by
  unfold gridF
  induction R with
  | zero => simp [totL]
  | succ R ih => rw [List.range_succ, List.map_append, totL_append, ih, Nat.succ_mul]; simp [totL]
theorem smV_len (G : List (List Int)) : (smV G).length + totL (smV G) ≤ 1048576 := by
  unfold smV
  split
  · rename_i hok
    obtain ⟨_, h2, _, h4, _⟩ := okG_rows hok
    rw [gridF_tot]
    have : G.length * colsG G ≤ 10 * 10 := Nat.mul_le_mul h2 h4
    simp [gridF]; omega
  · simp [totL]
theorem smS_bd {R C : Nat} {h : Nat → Nat → Int} (h0 : ∀ i k, i < R → k < C → 0 ≤ h i k) (h1 : ∀ i k, i < R → k < C → h i k ≤ 1000) (L : List (Nat × Nat)) : (∀ q ∈ L, q.1 < R ∧ q.2 < C) → 0 ≤ smS h L ∧ smS h L ≤ 1000 * L.length := by
  refine snoc_ind (P := fun L => (∀ q ∈ L, q.1 < R ∧ q.2 < C) → 0 ≤ smS h L ∧ smS h L ≤ 1000 * L.length) (fun _ => by simp [smS]) (fun L q ih hq => ?_) L
  obtain ⟨a, b⟩ := ih (fun x hx => hq x (by simp [hx]))
  obtain ⟨c, d⟩ := hq q (by simp)
  have e := h0 _ _ c d
  have f := h1 _ _ c d
  show 0 ≤ smS h (L ++ [q]) ∧ smS h (L ++ [q]) ≤ 1000 * (L ++ [q]).length
  rw [smS_app, List.length_append, List.length_singleton]
  constructor
  · omega
  · push_cast; omega
theorem smF_in {R C : Nat} {h : Nat → Nat → Int} (h0 : ∀ i k, i < R → k < C → 0 ≤ h i k) (h1 : ∀ i k, i < R → k < C → h i k ≤ 1000) (i k : Nat) (hi : i < R) (hk : k < C) : inI (smF R C h i k) := by
  have a := h0 i k hi hk
  have b := h1 i k hi hk
  unfold smF
  split
  · exact ⟨by omega, by omega⟩
  · have c := smS_bd h0 h1 (nbL R C i k) (nb_in hi hk)
    have d : (nbL R C i k).length ≤ 4 := nbT_len R C i k 4
    rw [rnd_pp _ 8 (by omega) (by omega)]
    split <;> exact ⟨by omega, by omega⟩
/-! the model -/
set_option maxHeartbeats 3200000 in
theorem l00Own_any (rg ro n c : Nat) (f : Nat → Int) (w : World) (hn : n ≤ 10) (hf : ∀ j, j < n → w.cell? ⟨rg, ro + j, none⟩ = some (.int .i64 (f j))) (hr : rg < w.heap.size) :
    Calls Try.prog 46 #[.slice (some ⟨rg, ro, none⟩) n c] w fun e w' => ∃ v, e = .returned v ∧ w'.ownsRow w.heap.size 2 1 v ((List.range n).map f).length (((List.range n).map f).map encI) ∧ Below w.heap.size w w' := by
  obtain ⟨i1, hj, hy0, hy1, hy2⟩ := info_parts infoI1
  have hf' := Lib.hid hf
  clear hf
  go_enter Try.func46, Try.ntmps46
  have hown : (w.alloc (.cells #[] 2)).ownsRow w.heap.size 2 1 (.slice (some ⟨w.heap.size, 0, none⟩) 0 0) 0 [] := ⟨rfl, Or.inr ⟨w.heap.size, 0, #[], rfl, Nat.le_refl _, heap_alloc_new _ _, Nat.le_refl 0, by unfold maxLen; omega, rfl, rfl⟩⟩
  have hown' := Lib.hid hown
  clear hown
  go_wp2_with (at_builtin; refine wpList_append_own _ rfl _ _ 32 rfl w.heap.size 2 i1 (.int .i64 0) 1 8 Try.underlying32 hj hy0 hy1 hy2 rfl (by decide) _ 0 [] rfl hown'.out ⟨rg, ro, none⟩ n c (((List.range n).map f).map encI) rfl (by simp) ?c1 ?c2 ?c3 ?c4 ?c5 ?_)
  case c1 =>
    intro j u hu
    have hadd : (⟨rg, ro, none⟩ : Addr).add j = ⟨rg, ro + j, none⟩ := by unfold Addr.add; split <;> simp_all
    rw [hadd]
    have hjn : j < n := by
      have := (List.getElem?_eq_some_iff.1 hu).1
      simpa using this
    rw [List.getElem?_map, List.getElem?_map, List.getElem?_range hjn] at hu
    have hc := hf'.out j hjn
    have hb : Below w.heap.size w (w.alloc (.cells #[] 2)) := (Below.refl _ _).alloc (Nat.le_refl _) _
    rw [(hb.cell (p := ⟨rg, ro + j, none⟩) hr), hc]
    simpa [encI] using hu
  case c2 =>
    intro u hu
    obtain ⟨z, _, rfl⟩ := List.mem_map.1 hu
    rfl
  case c3 => unfold maxLen; omega
  case c4 => omega
  case c5 => simp
  intro v9 w9 hown9 hgrow9 _
  have hB := Lib.hid (((Below.refl w.heap.size w).alloc (Nat.le_refl _) (.cells #[] 2)).grown hgrow9 (by simp) (fun j hj => by simp [Value.ownBlock] at hj; omega))
  have hO := Lib.hid hown9
  clear hown9 hgrow9
  go_wp2
  go_ret
  exact ⟨_, rfl, by have := hO.out; simpa using this, hB.out⟩
end Go.Proofs.Ytagjpldfafablaa
