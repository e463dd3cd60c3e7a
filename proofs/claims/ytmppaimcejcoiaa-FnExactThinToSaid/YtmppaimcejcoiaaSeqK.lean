/-
  A loop over an iterator, the blocks that the iterator reads being kept by the body.
-/
import Derived.RangeFuncNested
import Derived.RangeFuncBound
import Derived.RangeFuncCalls
import Derived.RangeFuncLeaves
import Derived.RangeFuncWrites
import Derived.Test.YtmppaimcejcoiaaMem
namespace Go.Proofs.Ytmppaimcejcoiaa
open Go.ChangeShapes Go.WideShapes Go.ChangeAt Go.RowKit Go.Deep
set_option linter.unusedVariables false
set_option linter.unusedSimpArgs false
/-- each block of cells in Kb lies as it lay -/
structure Keeps (Kb : Nat → Prop) (A B : World) : Prop where
  size : A.heap.size ≤ B.heap.size
  same : ∀ (k : Nat) (o : Obj), Kb k → A.heap[k]? = some o → o.isCells = true → B.heap[k]? = some o
theorem Keeps.refl (Kb : Nat → Prop) (A : World) : Keeps Kb A A := ⟨Nat.le_refl _, fun _ _ _ h _ => h⟩
theorem Keeps.trans {Kb : Nat → Prop} {A B C : World} (h : Keeps Kb A B) (k : Keeps Kb B C) : Keeps Kb A C :=
  ⟨Nat.le_trans h.size k.size, fun i o hn hi ho => k.same i o hn (h.same i o hn hi ho) ho⟩
theorem lt_of_some {w : World} {k : Nat} {o : Obj} (h : w.heap[k]? = some o) : k < w.heap.size := (Array.getElem?_eq_some_iff.1 h).1
theorem Keeps.of_below {Kb : Nat → Prop} {A B : World} (h : Below A.heap.size A B) : Keeps Kb A B :=
  ⟨h.size, fun k o _ hk _ => (h.block k (lt_of_some hk)).trans hk⟩
theorem Keeps.alloc (Kb : Nat → Prop) (A : World) (o : Obj) : Keeps Kb A (A.alloc o) := .of_below ((Below.refl _ _).alloc (Nat.le_refl _) _)
theorem Keeps.grown {Kb : Nat → Prop} {A B : World} {row : Option Nat} (h : A.grownBy B row) (hr : ∀ k, row = some k → ¬ Kb k) : Keeps Kb A B :=
  ⟨h.size, fun k o hn hk _ => (h.block k (lt_of_some hk) (fun e => hr k e.symm hn)).trans hk⟩
theorem Keeps.setCell {Kb : Nat → Prop} (A : World) (a : Addr) (h : ¬ Kb a.block) (v : Value) : Keeps Kb A (A.setCell a v) :=
  ⟨(KeepsOthers.setCell A a v).size, fun k o hn hk _ => (Below.heap_setCell A a v k (fun e => h (e ▸ hn))).trans hk⟩
theorem Keeps.drewN {Kb : Nat → Prop} (A : World) (n : Nat) : Keeps Kb A (A.drewN n) := ⟨Nat.le_refl _, fun _ _ _ h _ => h⟩
theorem Keeps.putObj {Kb : Nat → Prop} {l : Nat} {A : World} {o : Obj} (o' : Obj) (h : A.heap[l]? = some o) (hc : o.isCells = false) : Keeps Kb A (A.putObj l o') :=
  ⟨by simp, fun k q hn hk hq => by
    by_cases e : k = l
    · subst e; rw [h] at hk; cases hk; rw [hc] at hq; cases hq
    · exact (World.putObj_heap_other e).trans hk⟩
theorem KeepsFrom.below {B : Nat} {A C : World} (h : Below A.heap.size A C) : KeepsFrom B A C :=
  ⟨h.size, fun k o _ hk _ => (h.block k (lt_of_some hk)).trans hk⟩
theorem KeepsFrom.grown {n : Nat} {A B : World} {row : Option Nat} (h : A.grownBy B row) (hr : ∀ k, row = some k → ∃ o, A.heap[k]? = some o ∧ o.isCells = true) : KeepsFrom n A B :=
  ⟨h.size, fun k o _ hk hc => (h.block k (lt_of_some hk) (fun e => by obtain ⟨q, h1, h2⟩ := hr k e.symm; rw [hk] at h1; cases h1; rw [hc] at h2; cases h2)).trans hk⟩
/-- what is said of a world hangs on what lies below n alone -/
def LowOnly {β : Type} (n : Nat) (I : β → World → Prop) : Prop := ∀ s A B, I s A → Below n A B → I s B
/-- the iterator gf, lb gives the elements of D one by one, until a round says no more -/
def SeqK {α : Type} (n : Nat) (P : Program) (gf : Nat) (lb : Array Value) (encs : α → Array Value) (Kb : Nat → Prop) (D : List α) (w : World) : Prop :=
  ∀ (l : Nat) (J Jx : List α → World → Prop) (W : World), Below w.heap.size w W → LowOnly W.heap.size J → LowOnly W.heap.size Jx →
    (∀ pre x W1, pre ++ [x] <+: D → J pre W1 → YieldAt Fence.wide (n - 1) P l (encs x) W1 fun e W' =>
      (e = .returned (.bool true) ∧ J (pre ++ [x]) W' ∧ Keeps Kb W1 W') ∨ (e = .returned (.bool false) ∧ Jx (pre ++ [x]) W')) →
    J [] W →
    CallsIn Fence.wide n P gf (#[.func (.yield l) #[] #[]] ++ lb) W fun e W' => (∃ v, e = .returned v) ∧ (J D W' ∨ ∃ pre, pre <+: D ∧ Jx pre W')
theorem below_put {n l : Nat} (W : World) (o : Obj) (hl : n ≤ l) (hW : n ≤ W.heap.size) : Below n W (W.putObj l o) :=
  (Below.refl n W).grown (grownBy_putObj' W l o) hW (fun k e => by cases e; exact hl)
theorem rangeK {α : Type} {n : Nat} {P : Program} {g : Operand} {ps : Array Tmp} {assign body : Code} {Q : Exit → Act → World → Prop} {a : Act} {w : World}
    {gf : Nat} {lb : Array Value} (hg : a.eval g = .func (.func gf) #[] lb) (eg : ∀ args w, (callFunc gf args).run P w = .ok (.enter gf args) w)
    {encs : α → Array Value} {Kb : Nat → Prop} {D : List α} (hps : ∀ x, (encs x).size = ps.size) (hseq : SeqK (n - 1) P gf lb encs Kb D w)
    (I : List α → World → Prop) (Ix : Code → List α → World → Prop) (hI : LowOnly w.heap.size I) (hIx : ∀ c, LowOnly w.heap.size (Ix c)) (h0 : I [] w)
    (A1 : α → Nat → Act) (cs : α → Array Value) (T : TypeId)
    (hassign : ∀ (l : Nat) (x : α) (W : World) (K : Act → World → Prop), K (A1 x W.heap.size) (W.alloc (.cells (cs x) T)) →
      assign.wpIn (Fence.wide.inRound l) (n - 1 - 1) P (Exit.then K (fun _ _ _ => False)) { tmps := (ps.zip (encs x)).foldl (fun t (p, v) => t.setIfInBounds p v) a.tmps, defers := [] } W)
    (hbody : ∀ (l B : Nat) (pre : List α) (x : α) (W : World), pre ++ [x] <+: D → w.heap.size ≤ l → l < B → B < W.heap.size → I pre W → W.heap[B]? = some (.cells (cs x) T (0, 0)) → w.heap.size ≤ W.heap.size →
      body.wpIn (Fence.wide.inRound l) (n - 1 - 1) P (ownPostG w.heap.size (Keeps Kb) I Ix (pre ++ [x]) W) (A1 x B) W)
    (hdone : ∀ (K : Nat) (W : World), w.heap.size ≤ K → I D W → W.heap[K]? = some (.deferred (some [])) → Q .normal { a with defers := { target := .collected K, args := #[] } :: a.defers } W)
    (hstop : ∀ (K : Nat) (c : Code) (pre : List α) (W : World), w.heap.size ≤ K → pre <+: D → Ix c pre W → W.heap[K]? = some (.deferred (some [])) → c.wpIn Fence.wide n P Q { a with defers := { target := .collected K, args := #[] } :: a.defers } W) :
    (Code.rangeFunc g ps assign body).wpIn Fence.wide n P Q a w := by
  refine wpIn_rangeFunc fun fn hfn => ?_
  obtain ⟨L, hL⟩ : ∃ L : Nat, L = w.heap.size + 1 := ⟨_, rfl⟩
  let rc : LoopState → Option Code → Obj := fun st pe => .loop { state := st, pending := pe, fn, tmps := a.tmps, params := ps, assign, body, defers := w.heap.size }
  let W1 : World := (w.alloc (.deferred (some []))).alloc (rc .ready none)
  have hsz : W1.heap.size = w.heap.size + 2 := by simp [W1]
  have q1 : W1.heap[L]? = some (rc .ready none) := by
    have := World.alloc_heap_new (w.alloc (.deferred (some []))) (rc .ready none)
    rw [World.size_alloc] at this; rw [hL]; exact this
  have q2 : W1.heap[w.heap.size]? = some (.deferred (some [])) := (Below.heap_alloc _ _ _ (by simp)).trans (World.alloc_heap_new w _)
  have bw : Below w.heap.size w W1 := ((Below.refl _ w).alloc (Nat.le_refl _) _).alloc (by simp) _
  refine ⟨L, [{ target := .collected w.heap.size, args := #[] }], W1, { target := .fn (.func gf) lb, args := #[.func (.yield L) #[] #[]] }, W1, gf, #[.func (.yield L) #[] #[]] ++ lb, W1, ?_, ?_, ?_, ?_, ?_, ?_⟩
  · rw [hL]; exact run_enterLoop_outer _ _ _ _ _
  · simp only [resolve, hg]; simp [go_sem]
  · intro f' _; trivial
  · simp [invoke, go_sem, eg]
  · intro h; cases h
  have low2 : ∀ {A B : World}, Below W1.heap.size A B → Below w.heap.size A B := fun h => h.mono (by omega)
  have put : ∀ {A : World} (o : Obj), w.heap.size ≤ A.heap.size → Below w.heap.size A (A.putObj L o) := fun o h => below_put _ _ (by omega) h
  have keep : ∀ {A B : World} {k : Nat} {o : Obj}, k < W1.heap.size → A.heap[k]? = some o → Below W1.heap.size A B → B.heap[k]? = some o := fun hk h hb => (hb.block _ hk).trans h
  refine (hseq L (fun pre W => I pre W ∧ W.heap[L]? = some (rc .ready none) ∧ W.heap[w.heap.size]? = some (.deferred (some [])))
    (fun pre W => ∃ c, Ix c pre W ∧ W.heap[L]? = some (rc .done (some c)) ∧ W.heap[w.heap.size]? = some (.deferred (some []))) W1 bw
    (fun s A B h hAB => ⟨hI s A B h.1 (low2 hAB), keep (by omega) h.2.1 hAB, keep (by omega) h.2.2 hAB⟩)
    (fun s A B h hAB => by obtain ⟨c, h1, h2, h3⟩ := h; exact ⟨c, hIx c s A B h1 (low2 hAB), keep (by omega) h2 hAB, keep (by omega) h3 hAB⟩)
    ?_ ⟨hI _ _ _ h0 bw, q1, q2⟩).mono ?_
  · rintro pre x W hpre ⟨i0, r0, k0⟩
    have hLW := lt_of_some r0
    refine ⟨fn, _, assign, body, run_yield r0 (hps x), roundIn_of_wpIn hfn (hassign L x W _ ?_)⟩
    have r1 : (W.alloc (.cells (cs x) T)).heap[L]? = some (rc .ready none) := (Below.heap_alloc _ _ _ hLW).trans r0
    have k1 : (W.alloc (.cells (cs x) T)).heap[w.heap.size]? = some (.deferred (some [])) := (Below.heap_alloc _ _ _ (by omega)).trans k0
    refine ⟨_, run_beginRound r1 rfl, ?_⟩
    have r2 : ((W.alloc (.cells (cs x) T)).putObj L (rc .busy none)).heap[L]? = some (rc .busy none) := World.putObj_heap_same (lt_of_some r1)
    have k2 : ((W.alloc (.cells (cs x) T)).putObj L (rc .busy none)).heap[w.heap.size]? = some (.deferred (some [])) := (World.putObj_heap_other (by omega)).trans k1
    have b2 : ((W.alloc (.cells (cs x) T)).putObj L (rc .busy none)).heap[W.heap.size]? = some (.cells (cs x) T (0, 0)) := (World.putObj_heap_other (by omega)).trans (World.alloc_heap_new W _)
    have i2 : I pre ((W.alloc (.cells (cs x) T)).putObj L (rc .busy none)) := hI _ _ _ (hI _ _ _ i0 ((Below.refl _ W).alloc (by omega) _)) (put _ (by simp; omega))
    have c2 : Keeps Kb W ((W.alloc (.cells (cs x) T)).putObj L (rc .busy none)) := (Keeps.alloc _ _ _).trans (Keeps.putObj _ r1 rfl)
    refine wpIn_mono (hbody L W.heap.size pre x _ hpre (by omega) hLW (by simp) i2 b2 (by simp; omega)) ?_
    have fin : ∀ (j : Option Code) (W3 : World), KeepsFrom w.heap.size ((W.alloc (.cells (cs x) T)).putObj L (rc .busy none)) W3 →
        (Instr.endRound L j).run P W3 = .ok (.bool j.isNone) (W3.putObj L (rc (if j.isNone then .ready else .done) j)) ∧ W3.heap[L]? = some (rc .busy none) ∧
        (W3.putObj L (rc (if j.isNone then .ready else .done) j)).heap[L]? = some (rc (if j.isNone then .ready else .done) j) ∧
        (W3.putObj L (rc (if j.isNone then .ready else .done) j)).heap[w.heap.size]? = some (.deferred (some [])) := fun j W3 h => by
      have r3 := h.same L _ (by omega) r2 rfl
      have k3 := h.same w.heap.size _ (Nat.le_refl _) k2 rfl
      exact ⟨run_endRound j r3, r3, World.putObj_heap_same (lt_of_some r3), (World.putObj_heap_other (by omega)).trans k3⟩
    have hz2 : w.heap.size ≤ ((W.alloc (.cells (cs x) T)).putObj L (rc .busy none)).heap.size := by simp; omega
    rintro e a3 W3 hp
    cases e with
    | normal =>
      obtain ⟨h1, h2, h3⟩ := hp
      obtain ⟨e1, e2, e3, e4⟩ := fin none W3 h1
      exact ⟨_, _, e1, .inl ⟨rfl, ⟨hI _ _ _ h3 (put _ (Nat.le_trans hz2 h1.size)), e3, e4⟩, (c2.trans h2).trans (Keeps.putObj _ e2 rfl)⟩⟩
    | ret =>
      obtain ⟨e1, _, e3, e4⟩ := fin (some .ret) W3 hp.1
      exact ⟨_, _, e1, .inr ⟨rfl, .ret, hIx _ _ _ _ hp.2 (put _ (Nat.le_trans hz2 hp.1.size)), e3, e4⟩⟩
    | exit id =>
      obtain ⟨e1, _, e3, e4⟩ := fin (some (.exit id)) W3 hp.1
      exact ⟨_, _, e1, .inr ⟨rfl, .exit id, hIx _ _ _ _ hp.2 (put _ (Nat.le_trans hz2 hp.1.size)), e3, e4⟩⟩
    | goto t =>
      obtain ⟨e1, _, e3, e4⟩ := fin (some (.goto t)) W3 hp.1
      exact ⟨_, _, e1, .inr ⟨rfl, .goto t, hIx _ _ _ _ hp.2 (put _ (Nat.le_trans hz2 hp.1.size)), e3, e4⟩⟩
    | panic ch => exact hp.elim
    | outgrown => exact hp.elim
  · rintro e W2 ⟨⟨v, rfl⟩, (⟨i, r, k⟩ | ⟨pre, hpre, c, i, r, k⟩)⟩
    · refine ⟨none, _, run_endLoop r (by simp), ?_⟩
      exact hdone _ _ (Nat.le_refl _) (hI _ _ _ i (put _ (by have := lt_of_some r; omega))) ((World.putObj_heap_other (by omega)).trans k)
    · refine ⟨some c, _, run_endLoop r (by simp), ?_⟩
      exact hstop _ c pre _ (Nat.le_refl _) hpre (hIx c _ _ _ i (put _ (by have := lt_of_some r; omega))) ((World.putObj_heap_other (by omega)).trans k)
end Go.Proofs.Ytmppaimcejcoiaa
