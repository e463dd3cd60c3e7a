/-
  Places as rows of two numbers; a grid that is handed back.
-/
import Derived.Test.YtmppaimcejcoiaaSurf
import Derived.Test.YtmppaimcejcoiaaGridM
namespace Go.Proofs.Ytmppaimcejcoiaa
open Go.ChangeShapes Go.WideShapes Go.ChangeAt Go.RowKit Go.Deep
set_option linter.unusedVariables false
set_option linter.unusedSimpArgs false
attribute [local go_sem] Oper.semAt_some
def GridRet (L : List (List Int)) (c : Int) (w : World) (e : Ending) (w' : World) : Prop := ∃ v vs, e = .returned (.tuple #[v, .int .i64 c]) ∧ OwnG w.heap.size w'.heap.size w' v L vs ∧ Below w.heap.size w w'
def plR (p : Nat × Nat) : List Int := [(p.1 : Int), (p.2 : Int)]
theorem plR_in {p : Nat × Nat} (h1 : p.1 ≤ 1000) (h2 : p.2 ≤ 1000) : ∀ n ∈ plR p, inI n := by
  intro n hn
  simp only [plR, List.mem_cons, List.not_mem_nil, or_false] at hn
  unfold inI
  rcases hn with rfl | rfl <;> omega
theorem gridRet_mk {L L' : List (List Int)} {c c' : Int} {w w' : World} {v : Value} {vs : List Value} {lo hi : Nat} (hL : L = L') (hc : c = c') (h : OwnG lo hi w' v L' vs) (hlo : w.heap.size ≤ lo) (hb : Below w.heap.size w w') : GridRet L c w (.returned (.tuple #[v, .int .i64 c'])) w' := by
  subst hL hc
  exact ⟨v, vs, rfl, (h.low hlo).wide h.hiW (Nat.le_refl _), hb⟩
theorem gridRet_nil {L : List (List Int)} {c c' : Int} {w w' : World} (hL : L = []) (hc : c = c') (hb : Below w.heap.size w w') : GridRet L c w (.returned (.tuple #[.slice none 0 0, .int .i64 c'])) w' := by
  subst hL hc
  exact ⟨_, [], rfl, (OwnG.nil _ _), hb⟩
end Go.Proofs.Ytmppaimcejcoiaa
