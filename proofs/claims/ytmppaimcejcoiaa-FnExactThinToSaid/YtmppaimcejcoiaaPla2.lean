/-
  A loop of the program over all places of a grid.
-/
import Derived.Test.YtmppaimcejcoiaaPla
import Derived.Test.YtmppaimcejcoiaaUnits
namespace Go.Proofs.Ytmppaimcejcoiaa
open Go.ChangeShapes Go.WideShapes Go.ChangeAt Go.RowKit Go.Deep
set_option linter.unusedVariables false
set_option linter.unusedSimpArgs false
attribute [local go_sem] Oper.semAt_some
theorem low_heap {n k : Nat} {o : Obj} {A B : World} (h : A.heap[k]? = some o) (hk : k < n) (hb : Below n A B) : B.heap[k]? = some o := (hb.block _ hk).trans h
theorem heap_set {w : World} {b : Nat} {cs : Array Value} {t : TypeId} (h : w.heap[b]? = some (.cells cs t (0, 0))) (i : Nat) (v : Value) (cs' : Array Value) (hc : cs.setIfInBounds i v = cs') : (w.setCell ⟨b, i, none⟩ v).heap[b]? = some (.cells cs' t (0, 0)) := by
  obtain ⟨hlt, hk⟩ := Array.getElem?_eq_some_iff.1 h
  show (w.heap.modify b _)[b]? = _
  rw [Array.getElem?_eq_getElem (by rw [Array.size_modify]; exact hlt), Array.getElem_modify_self, hk, ← hc]
  simp [Array.setIfInBounds]
theorem heap_set2 {w : World} {b : Nat} {x y x' y' : Value} {t : TypeId} (h : w.heap[b]? = some (.cells #[x, y] t (0, 0))) : ((w.setCell ⟨b, 0, none⟩ x').setCell ⟨b, 1, none⟩ y').heap[b]? = some (.cells #[x', y'] t (0, 0)) :=
  heap_set (heap_set h 0 x' _ rfl) 1 y' _ rfl
theorem other2 {w : World} {b k : Nat} {x y : Value} (hk : k ≠ b) : ((w.setCell ⟨b, 0, none⟩ x).setCell ⟨b, 1, none⟩ y).heap[k]? = w.heap[k]? := by
  rw [Below.heap_setCell _ _ _ _ hk, Below.heap_setCell _ _ _ _ hk]
theorem calm_ret {W w' : World} {f : FuncId} {args : Array Value} {v : Value} (hw' : Below W.heap.size W w') (h : Calls Try.prog f args w' fun e w2 => e = .returned v ∧ Below w'.heap.size w' w2) : Calls Try.prog f args w' fun e w2 => e = .returned v ∧ Below W.heap.size W w2 :=
  h.mono fun e w2 h2 => ⟨h2.1, below2 hw' h2.2⟩
theorem rangeP {n : Nat} {gop : Operand} {p15 : Tmp} {assign body : Code} {Q : Exit → Act → World → Prop} {a : Act} {w : World} {gf : Nat} {lb : Array Value} {R C : Nat}
    (hg : a.eval gop = .func (.func gf) #[] lb) (eg : ∀ args w, (callFunc gf args).run Try.prog w = .ok (.enter gf args) w)
    {Kb : Nat → Prop} (hseq : SeqK (n - 1) Try.prog gf lb (fun x => #[encP x]) Kb (plAll R C) w)
    (I : List (Nat × Nat) → World → Prop) (Ix : Code → List (Nat × Nat) → World → Prop) (hI : LowOnly w.heap.size I) (hIx : ∀ c, LowOnly w.heap.size (Ix c)) (h0 : I [] w) {A1 : Nat × Nat → Nat → Act}
    (hassign : ∀ (l B : Nat) (x : Nat × Nat) (W : World) (K : Act → World → Prop), W.heap.size = B → K (A1 x B) (W.alloc (.cells #[.int .i64 (x.1 : Int), .int .i64 (x.2 : Int)] 57)) →
      assign.wpIn (Fence.wide.inRound l) (n - 1 - 1) Try.prog (Exit.then K (fun _ _ _ => False)) { tmps := (#[p15].zip #[encP x]).foldl (fun t (p, v) => t.setIfInBounds p v) a.tmps, defers := [] } W)
    (hbody : ∀ (l B : Nat) (pre : List (Nat × Nat)) (x : Nat × Nat) (W : World), pre ++ [x] <+: plAll R C → w.heap.size ≤ l → w.heap.size ≤ B → B < W.heap.size → I pre W → W.heap[B]? = some (.cells #[.int .i64 (x.1 : Int), .int .i64 (x.2 : Int)] 57 (0, 0)) → w.heap.size ≤ W.heap.size →
      body.wpIn (Fence.wide.inRound l) (n - 1 - 1) Try.prog (ownPostG w.heap.size (Keeps Kb) I Ix (pre ++ [x]) W) (A1 x B) W)
    (hdone : ∀ (K : Nat) (W : World), w.heap.size ≤ K → I (plAll R C) W → W.heap[K]? = some (.deferred (some [])) → Q .normal { a with defers := { target := .collected K, args := #[] } :: a.defers } W)
    (hstop : ∀ (K : Nat) (c : Code) (pre : List (Nat × Nat)) (W : World), w.heap.size ≤ K → pre <+: plAll R C → Ix c pre W → W.heap[K]? = some (.deferred (some [])) → c.wpIn Fence.wide n Try.prog Q { a with defers := { target := .collected K, args := #[] } :: a.defers } W) :
    (Code.rangeFunc gop #[p15] assign body).wpIn Fence.wide n Try.prog Q a w :=
  rangeK hg eg (encs := fun x => #[encP x]) (fun _ => rfl) hseq I Ix hI hIx h0 A1 csP 57 (fun l x W K hK => hassign l _ x W K rfl hK)
    (fun l B pre x W h1 h2 h3 h4 h5 h6 h7 => hbody l B pre x W h1 h2 (by omega) h4 h5 h6 h7) hdone hstop
end Go.Proofs.Ytmppaimcejcoiaa
