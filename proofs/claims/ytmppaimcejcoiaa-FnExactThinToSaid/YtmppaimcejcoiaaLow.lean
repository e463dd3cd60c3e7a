/-
  The places over which a surface is lower than a height.
-/
import Derived.Test.YtmppaimcejcoiaaSurf
import Derived.Test.YtmppaimcejcoiaaNum
import Derived.Test.YtmppaimcejcoiaaSeqN
import Derived.Deep.AppendLies
import Derived.Handy
namespace Go.Proofs.Ytmppaimcejcoiaa
open Go.ChangeShapes Go.WideShapes Go.ChangeAt Go.RowKit Go.Deep
set_option linter.unusedVariables false
set_option linter.unusedSimpArgs false
attribute [local go_sem] Oper.semAt_some
theorem own_cells {A B : World} {lo e size n : Nat} {v : Value} {xs : List Value} (h : A.ownsRow lo e size v n xs) (hs : SameCells A B) : B.ownsRow lo e size v n xs := by
  refine ⟨h.1, ?_⟩
  rcases h.2 with h1 | ⟨g, cap, cur, hv, hg, hc, r⟩
  · exact Or.inl h1
  · exact Or.inr ⟨g, cap, cur, hv, hg, hs.same _ _ hc rfl, r⟩
theorem OwnG.top' {lo hi n : Nat} {A : World} {v : Value} {G : List (List Int)} {vs : List Value} (h : OwnG lo hi A v G vs) (e : n = G.length) : A.ownsRow lo 36 1 v n vs := by subst e; exact h.top
theorem own_not_box {w : World} {lo e size n B : Nat} {t : TypeId} {v : Value} {xs : List Value} {cs : Array Value} (h : w.ownsRow lo e size v n xs) (hb : w.heap[B]? = some (.cells cs t (0, 0))) (ht : t ≠ e) : some B ≠ v.ownBlock := by
  intro hh
  rcases h.2 with ⟨rfl, _⟩ | ⟨g, cap, cur, rfl, _, hc, _⟩
  · simp [Value.ownBlock] at hh
  · simp only [Value.ownBlock, Option.some.injEq] at hh
    subst hh
    rw [hb] at hc
    injection hc with h1
    injection h1 with _ h2
    exact ht h2
theorem own_isCells {w : World} {lo e size n k : Nat} {v : Value} {xs : List Value} (h : w.ownsRow lo e size v n xs) (hk : v.ownBlock = some k) : ∃ o, w.heap[k]? = some o ∧ o.isCells = true := by
  rcases h.2 with ⟨rfl, _⟩ | ⟨g, cap, cur, rfl, _, hc, _⟩
  · simp [Value.ownBlock] at hk
  · simp only [Value.ownBlock, Option.some.injEq] at hk
    subst hk
    exact ⟨_, hc, rfl⟩
theorem OwnG.cells {lo hi : Nat} {A B : World} {v : Value} {G : List (List Int)} {vs : List Value} (h : OwnG lo hi A v G vs) (hs : SameCells A B) : OwnG lo hi B v G vs :=
  ⟨Nat.le_trans h.hiW hs.size, h.len, own_cells h.top hs, fun i u Z e1 e2 => own_cells (h.row i u Z e1 e2) hs, h.apart, h.inn, h.topIn, h.rowIn⟩
/-- the places of these where the height is less than n -/
def loF (n : Int) (f : Nat → Nat → Int) (L : List (Nat × Nat)) : List (List Int) := (L.filter fun p => decide (f p.1 p.2 < n)).map plR
theorem loF_next (n : Int) (f : Nat → Nat → Int) (L : List (Nat × Nat)) (p : Nat × Nat) : loF n f (L ++ [p]) = if f p.1 p.2 < n then loF n f L ++ [plR p] else loF n f L := by
  unfold loF; rw [List.filter_append, List.map_append]
  by_cases hh : f p.1 p.2 < n
  · rw [if_pos hh, List.filter_cons_of_pos (by simpa using hh)]; rfl
  · rw [if_neg hh, List.filter_cons_of_neg (by simpa using hh)]; simp
theorem loF_len (n : Int) (f : Nat → Nat → Int) (L : List (Nat × Nat)) : (loF n f L).length ≤ L.length := by
  unfold loF; rw [List.length_map]; exact List.length_filter_le _ _
theorem loF_tot (n : Int) (f : Nat → Nat → Int) (L : List (Nat × Nat)) : totL (loF n f L) ≤ 2 * L.length := by
  refine snoc_ind (P := fun L => totL (loF n f L) ≤ 2 * L.length) (by unfold loF; simp [totL]) (fun L p ih => ?_) L
  show totL (loF n f (L ++ [p])) ≤ 2 * (L ++ [p]).length
  rw [loF_next, List.length_append]
  split
  · rw [totL_append]
    have : totL [plR p] = 2 := rfl
    simp only [List.length_singleton]; omega
  · simp only [List.length_singleton]; omega
theorem plAll_hun {R C : Nat} (hR : R ≤ 10) (hC : C ≤ 10) : (plAll R C).length ≤ 100 := by
  unfold plAll; rw [plTo_len]
  have : R * C ≤ 10 * 10 := Nat.mul_le_mul hR hC
  omega
theorem infoGL : (Try.prog.info? 36).map (fun i => (i.zero, i.size, i.bytes)) = some (some (.slice none 0 0), 1, 24) := infoG
end Go.Proofs.Ytmppaimcejcoiaa
