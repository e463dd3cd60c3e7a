/-
  Rows of arcs point by point; copy of a row of wide elements.
-/
import Derived.Test.YtdgkpghecfpgoaaArcP
import Derived.Laws.IdiomCopy
import Derived.Laws.CopyOwn
namespace Go.Proofs.Ytdgkpghecfpgoaa
open Go.ChangeShapes Go.WideShapes Go.ChangeAt Go.RowKit Go.Deep
set_option linter.unusedVariables false
set_option linter.unusedSimpArgs false
set_option maxRecDepth 1000000
theorem run_copy_wide {P : Program} (w : World) (dT sT ty elem : TypeId) (b dLen dCap size : Nat) (a : Addr) (sLen sCap : Nat) (cs : List Value)
    (hu : P.underlying dT = some (.slice elem)) (hs : (P.info? elem).map (·.size) = some size) (hn : cs.length = Nat.min sLen dLen * size)
    (hsrc : ∀ j v, cs[j]? = some v → w.cell? (a.add j) = some v) (ht : w.there b 0 cs.length) (h1 : ∀ v ∈ cs, v.oneCell' = true) :
    (Builtin.copy_ #[dT, sT] ty #[.slice (some ⟨b, 0, none⟩) dLen dCap, .slice (some a) sLen sCap]).run P w = .ok (goInt (Nat.min sLen dLen)) (w.setCells b 0 cs) := by
  have hl := run_loadCells_list (P := P) w a cs hsrc
  have hst := run_storeCells_cells (P := P) b 0 cs 0 w (fun j hj => by simpa using (ht j hj).1) (fun j hj => by simpa using (ht j hj).2) h1
  cases hq : P.info? elem with
  | none => simp [hq] at hs
  | some i =>
    have hi : i.size = size := by simpa [hq] using hs
    simp [Builtin.copy_, run_underlying hu, Builtin.lenOf, Builtin.firstCells, sizeOf, typeInfo, hq, hi, ← hn, hl, hst]
theorem wpList_copy_wide {P : Program} {w : World} {ops : Array Oper} {rest : List Oper} {o : Oper} {a : Act} {Q : Exit → Act → World → Prop} (hgd : o.guard = none) (d s : Operand) (dT sT : TypeId)
    (ho : o.op = .call { callee := .builtin .copy, args := #[d, s], argTypes := #[dT, sT] }) (elem : TypeId) (hu : P.underlying dT = some (.slice elem)) (size : Nat) (hsz : (P.info? elem).map (·.size) = some size)
    (g dLen dCap : Nat) (ad : Addr) (sLen sCap : Nat) (hd : a.eval d = .slice (some ⟨g, 0, none⟩) dLen dCap) (hs : a.eval s = .slice (some ad) sLen sCap)
    (cs : List Value) (hn : cs.length = Nat.min sLen dLen * size) (hsrc : ∀ j v, cs[j]? = some v → w.cell? (ad.add j) = some v) (ht : w.there g 0 cs.length) (h1 : ∀ v ∈ cs, v.oneCell' = true)
    (h : wpList P ops Q rest (a.put o.dst (goInt (Nat.min sLen dLen))) (w.setCells g 0 cs)) : wpList P ops Q (o :: rest) a w := by
  refine wpList_plain hgd fun K hK => ?_
  have hrun := run_copy_wide (P := P) w dT sT o.type elem g dLen dCap size ad sLen sCap cs hu hsz hn hsrc ht h1
  unfold Oper.wp
  simp [execOp, ho, resolve, invoke, builtin, hd, hs, hrun, Result.andThen]
  exact hK _ _ h
/-- point number i of a list of arcs -/
def ptsOf (Z : List Arc) (i : Nat) : Int × Int := if i % 3 = 0 then ((Z.getD (i / 3) arc0).cx, (Z.getD (i / 3) arc0).cy) else if i % 3 = 1 then ((Z.getD (i / 3) arc0).fx, (Z.getD (i / 3) arc0).fy) else ((Z.getD (i / 3) arc0).tx, (Z.getD (i / 3) arc0).ty)
/-- the points of a row of the call's own -/
def RowP (g m : Nat) (F : Nat → Int × Int) (w : World) : Prop := ∀ p, p < m → w.cell? ⟨g, p * 2, none⟩ = some (.int .i64 (F p).1) ∧ w.cell? ⟨g, p * 2 + 1, none⟩ = some (.int .i64 (F p).2)
theorem RowP.below {g m : Nat} {F : Nat → Int × Int} {w w' : World} (h : RowP g m F w) (hg : g < w.heap.size) (hb : Below w.heap.size w w') : RowP g m F w' := fun p hp => ⟨(hb.cell (p := ⟨g, _, none⟩) hg).trans (h p hp).1, (hb.cell (p := ⟨g, _, none⟩) hg).trans (h p hp).2⟩
theorem RowP.congr {g m : Nat} {F G : Nat → Int × Int} {w : World} (h : RowP g m F w) (e : ∀ p, p < m → F p = G p) : RowP g m G w := fun p hp => by rw [← e p hp]; exact h p hp
/-- the arcs of the points -/
def arcsF (n : Nat) (F : Nat → Int × Int) : List Arc := (List.range n).map fun i => ⟨(F (3 * i)).1, (F (3 * i)).2, (F (3 * i + 1)).1, (F (3 * i + 1)).2, (F (3 * i + 2)).1, (F (3 * i + 2)).2⟩
theorem arcsF_len (n : Nat) (F : Nat → Int × Int) : (arcsF n F).length = n := by unfold arcsF; simp
theorem arcsF_get (n : Nat) (F : Nat → Int × Int) (i : Nat) (hi : i < (arcsF n F).length) : (arcsF n F)[i] = ⟨(F (3 * i)).1, (F (3 * i)).2, (F (3 * i + 1)).1, (F (3 * i + 1)).2, (F (3 * i + 2)).1, (F (3 * i + 2)).2⟩ := by simp only [arcsF, List.getElem_map, List.getElem_range]
theorem ownA_pts {B g n : Nat} {F : Nat → Int × Int} {w : World} (h : RowP g (3 * n) F w) (hg : g < w.heap.size) (hB : B ≤ g) (hth : w.there g 0 (n * 6)) : OwnA B (.slice (some ⟨g, 0, none⟩) n n) (arcsF n F) w := by
  refine ⟨⟨_, n, by rw [arcsF_len], by rw [arcsF_len]; exact Nat.le_refl _, fun _ _ => trivial, Or.inr ⟨g, 0, rfl, hg, fun i hi j v hv => ?_⟩⟩, Or.inr ⟨g, n, by rw [arcsF_len], hB, hg, by rw [arcsF_len]; exact hth⟩⟩
  have hin : i < n := by rw [arcsF_len] at hi; exact hi
  rw [arcsF_get n F i hi] at hv
  have h0 := h (3 * i) (by omega)
  have h1 := h (3 * i + 1) (by omega)
  have h2 := h (3 * i + 2) (by omega)
  match j, hv with
  | 0, hv => rw [show 0 + i * 6 + 0 = 3 * i * 2 by omega]; exact h0.1.trans hv
  | 1, hv => rw [show 0 + i * 6 + 1 = 3 * i * 2 + 1 by omega]; exact h0.2.trans hv
  | 2, hv => rw [show 0 + i * 6 + 2 = (3 * i + 1) * 2 by omega]; exact h1.1.trans hv
  | 3, hv => rw [show 0 + i * 6 + 3 = (3 * i + 1) * 2 + 1 by omega]; exact h1.2.trans hv
  | 4, hv => rw [show 0 + i * 6 + 4 = (3 * i + 2) * 2 by omega]; exact h2.1.trans hv
  | 5, hv => rw [show 0 + i * 6 + 5 = (3 * i + 2) * 2 + 1 by omega]; exact h2.2.trans hv
  | j + 6, hv => simp [Arc.cells] at hv
theorem rowP_of {g : Nat} {Z : List Arc} {w : World} (h : w.rangeAt g 0 (flatA Z)) : RowP g (3 * Z.length) (ptsOf Z) w := by
  intro p hp
  have hi : p / 3 < Z.length := by omega
  have key : ∀ j v, j < 6 → (Z[p / 3]).cells[j]? = some v → w.cell? ⟨g, p / 3 * 6 + j, none⟩ = some v := fun j v hj hv => by
    have := h (p / 3 * 6 + j) v ((flatA_get Z (p / 3) hi j hj).trans hv)
    rwa [Nat.zero_add] at this
  unfold ptsOf
  rw [getD_of _ hi]
  have h3 : p % 3 < 3 := Nat.mod_lt _ (by omega)
  have hd : p = 3 * (p / 3) + p % 3 := (Nat.div_add_mod p 3).symm
  by_cases e0 : p % 3 = 0
  · rw [if_pos e0]
    constructor
    · rw [show p * 2 = p / 3 * 6 + 0 by omega]; exact key 0 _ (by omega) rfl
    · rw [show p * 2 + 1 = p / 3 * 6 + 1 by omega]; exact key 1 _ (by omega) rfl
  · rw [if_neg e0]
    by_cases e1 : p % 3 = 1
    · rw [if_pos e1]
      constructor
      · rw [show p * 2 = p / 3 * 6 + 2 by omega]; exact key 2 _ (by omega) rfl
      · rw [show p * 2 + 1 = p / 3 * 6 + 3 by omega]; exact key 3 _ (by omega) rfl
    · rw [if_neg e1]
      constructor
      · rw [show p * 2 = p / 3 * 6 + 4 by omega]; exact key 4 _ (by omega) rfl
      · rw [show p * 2 + 1 = p / 3 * 6 + 5 by omega]; exact key 5 _ (by omega) rfl
theorem pts_in {Z : List Arc} (h : outB Z = true) {p : Nat} (hp : p < 3 * Z.length) : (-100000 ≤ (ptsOf Z p).1 ∧ (ptsOf Z p).1 ≤ 100000) ∧ (-100000 ≤ (ptsOf Z p).2 ∧ (ptsOf Z p).2 ≤ 100000) := by
  have hi : p / 3 < Z.length := by omega
  obtain ⟨h1, h2, h3⟩ := arc_bd (out_one h hi)
  unfold ptsOf
  rw [getD_of _ hi]
  split
  · exact ptB_bd h1
  · split
    · exact ptB_bd h2
    · exact ptB_bd h3
/-- one point of a row is set, nothing else turns -/
def PtSet (w : World) (g o : Nat) (u v : Int) (w' : World) : Prop := w.grownBy w' (some g) ∧ w'.cell? ⟨g, o, none⟩ = some (.int .i64 u) ∧ w'.cell? ⟨g, o + 1, none⟩ = some (.int .i64 v) ∧ (∀ i, i ≠ o → i ≠ o + 1 → w'.cell? ⟨g, i, none⟩ = w.cell? ⟨g, i, none⟩) ∧ (∀ i, w'.frozen? ⟨g, i, none⟩ = w.frozen? ⟨g, i, none⟩)
theorem PtSet.there {w w' : World} {g o n : Nat} {u v : Int} (h : PtSet w g o u v w') (ht : w.there g 0 n) : w'.there g 0 n := by
  obtain ⟨_, h1, h2, h3, h4⟩ := h
  intro j hj
  refine ⟨?_, (h4 _).trans (ht j hj).2⟩
  by_cases e1 : 0 + j = o
  · rw [e1, h1]; rfl
  · by_cases e2 : 0 + j = o + 1
    · rw [e2, h2]; rfl
    · rw [h3 _ e1 e2]; exact (ht j hj).1
theorem PtSet.row {w w' : World} {g m p : Nat} {u v : Int} {F : Nat → Int × Int} (h : PtSet w g (p * 2) u v w') (hr : RowP g m F w) : RowP g m (fun i => if i = p then (u, v) else F i) w' := by
  obtain ⟨_, h1, h2, h3, h4⟩ := h
  intro q hq
  by_cases e : q = p
  · subst e; simp only [if_true]; exact ⟨h1, h2⟩
  · simp only [e, if_false]
    exact ⟨(h3 _ (by omega) (by omega)).trans (hr q hq).1, (h3 _ (by omega) (by omega)).trans (hr q hq).2⟩
theorem ptSet_two (w : World) (g o : Nat) (u v : Int) (q : Nat) (ht : w.there g o 2) : PtSet w g o u v ((w.setCells g o [.int .i64 u, .int .i64 v]).drewN q) := by
  have hr := World.rangeAt_setCells_same w g o [.int .i64 u, .int .i64 v] ht
  refine ⟨gtrans (grown_sets g [.int .i64 u, .int .i64 v] o w) (below_grown' (belowN (Below.refl _ _) q) _), hr 0 _ rfl, hr 1 _ rfl, fun i h1 h2 => ?_, fun i => World.frozen?_setCells g [.int .i64 u, .int .i64 v] o w _⟩
  show (w.setCells g o [.int .i64 u, .int .i64 v]).cell? _ = _
  exact World.cell?_setCells_out g [.int .i64 u, .int .i64 v] o w _ (fun _ _ => (by show i < o ∨ o + 2 ≤ i; omega))
end Go.Proofs.Ytdgkpghecfpgoaa
