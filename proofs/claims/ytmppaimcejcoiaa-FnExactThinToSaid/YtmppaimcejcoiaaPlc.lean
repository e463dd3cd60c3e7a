/-
  Places of a grid in their order; grids that are valid, in memory.
-/
import Derived.Test.YtmppaimcejcoiaaGrid
import Derived.Test.YtmppaimcejcoiaaRowMath
namespace Go.Proofs.Ytmppaimcejcoiaa
open Go.ChangeShapes Go.WideShapes Go.ChangeAt Go.RowKit Go.Deep
set_option linter.unusedVariables false
set_option linter.unusedSimpArgs false
/-- the places ahead of row i, column k -/
def plTo (C i k : Nat) : List (Nat × Nat) := ((List.range i).flatMap fun r => (List.range C).map fun c => (r, c)) ++ (List.range k).map fun c => (i, c)
def plAll (R C : Nat) : List (Nat × Nat) := plTo C R 0
theorem plTo_zero (C : Nat) : plTo C 0 0 = [] := rfl
theorem plTo_next (C i k : Nat) : plTo C i (k + 1) = plTo C i k ++ [(i, k)] := by
  unfold plTo; rw [List.range_succ, List.map_append, List.append_assoc]; rfl
theorem plTo_row (C i : Nat) : plTo C i C = plTo C (i + 1) 0 := by
  unfold plTo; rw [List.range_succ, List.flatMap_append]; simp
theorem mem_plTo {C i k r c : Nat} : (r, c) ∈ plTo C i k ↔ (r < i ∧ c < C) ∨ (r = i ∧ c < k) := by
  unfold plTo
  simp only [List.mem_append, List.mem_flatMap, List.mem_range, List.mem_map, Prod.mk.injEq]
  constructor
  · rintro (⟨a, ha, b, hb, rfl, rfl⟩ | ⟨b, hb, rfl, rfl⟩)
    · exact Or.inl ⟨ha, hb⟩
    · exact Or.inr ⟨rfl, hb⟩
  · rintro (⟨h1, h2⟩ | ⟨rfl, h2⟩)
    · exact Or.inl ⟨r, h1, c, h2, rfl, rfl⟩
    · exact Or.inr ⟨c, h2, rfl, rfl⟩
theorem mem_plAll {R C r c : Nat} : (r, c) ∈ plAll R C ↔ r < R ∧ c < C := by
  unfold plAll; rw [mem_plTo]; omega
theorem plTo_len (C : Nat) : ∀ i k, (plTo C i k).length = i * C + k := by
  intro i k
  unfold plTo
  simp only [List.length_append, List.length_map, List.length_range, List.length_flatMap]
  congr 1
  induction i with
  | zero => simp
  | succ n ih => rw [List.range_succ, List.map_append, List.sum_append, ih]; simp [Nat.succ_mul]
theorem plTo_pre {R C i k : Nat} (hi : i ≤ R) (hk : k ≤ C) (hc : i = R → k = 0) : plTo C i k <+: plAll R C := by
  unfold plAll
  have row : ∀ d k, k ≤ C → plTo C i k <+: plTo C (i + d + 1) 0 := by
    intro d
    induction d with
    | zero =>
      intro k hk
      rw [Nat.add_zero, ← plTo_row]
      obtain ⟨e, rfl⟩ : ∃ e, C = k + e := ⟨C - k, by omega⟩
      have : ∀ (D e : Nat), plTo D i k <+: plTo D i (k + e) := by
        intro D e
        induction e with
        | zero => exact List.prefix_refl _
        | succ e ihe => rw [show k + (e + 1) = (k + e) + 1 by omega, plTo_next]; exact ihe.trans (List.prefix_append _ _)
      exact this _ e
    | succ d ih =>
      intro k hk
      refine (ih k hk).trans ?_
      rw [show i + (d + 1) + 1 = (i + d + 1) + 1 by omega, ← plTo_row C (i + d + 1)]
      have : ∀ (j e : Nat), plTo C j 0 <+: plTo C j e := by
        intro j e
        induction e with
        | zero => exact List.prefix_refl _
        | succ e ihe => rw [plTo_next]; exact ihe.trans (List.prefix_append _ _)
      exact this _ C
  by_cases h : i = R
  · subst h; rw [hc rfl]
    exact List.prefix_refl _
  · have := row (R - i - 1) k hk
    rwa [show i + (R - i - 1) + 1 = R by omega] at this
/-- .. the place behind a beginning -/
theorem pre_place {R C : Nat} {pre : List (Nat × Nat)} {x : Nat × Nat} (h : pre ++ [x] <+: plAll R C) : x.1 < R ∧ x.2 < C ∧ pre = plTo C x.1 x.2 := by
  have hx : x ∈ plAll R C := h.subset (by simp)
  obtain ⟨r, c⟩ := x
  obtain ⟨h1, h2⟩ := mem_plAll.1 hx
  refine ⟨h1, h2, ?_⟩
  -- both beginnings end before the same place, which is there once
  have hp : plTo C r c ++ [(r, c)] <+: plAll R C := by
    rw [← plTo_next]
    by_cases hc : c + 1 = C
    · rw [hc, plTo_row]; exact plTo_pre (by omega) (by omega) (fun _ => rfl)
    · exact plTo_pre (by omega) (by omega) (by omega)
  have nd : (plAll R C).Pairwise (· ≠ ·) := by
    unfold plAll plTo
    simp only [List.range_zero, List.map_nil, List.append_nil]
    rw [List.pairwise_flatMap]
    refine ⟨fun r _ => ?_, ?_⟩
    · rw [List.pairwise_map]
      exact List.Pairwise.imp (fun {a b} h e => by injection e with _ e2; omega) List.pairwise_lt_range
    · refine List.Pairwise.imp ?_ (List.pairwise_lt_range (n := R))
      intro a b hab x hx y hy e
      simp only [List.mem_map, List.mem_range] at hx hy
      obtain ⟨_, _, rfl⟩ := hx
      obtain ⟨_, _, rfl⟩ := hy
      injection e with e1 _
      omega
  have hl : pre.length = (plTo C r c).length := by
    have g1 : (plAll R C)[pre.length]? = some (r, c) := by obtain ⟨t, ht⟩ := h; rw [← ht]; simp
    have g2 : (plAll R C)[(plTo C r c).length]? = some (r, c) := by obtain ⟨t, ht⟩ := hp; rw [← ht]; simp
    obtain ⟨l1, e1⟩ := List.getElem?_eq_some_iff.1 g1
    obtain ⟨l2, e2⟩ := List.getElem?_eq_some_iff.1 g2
    rw [List.pairwise_iff_getElem] at nd
    rcases Nat.lt_trichotomy pre.length (plTo C r c).length with hlt | heq | hgt
    · exact absurd (e1.trans e2.symm) (nd _ _ l1 l2 hlt)
    · exact heq
    · exact absurd (e2.trans e1.symm) (nd _ _ l2 l1 hgt)
  have q1 : pre <+: plAll R C := (List.prefix_append _ _).trans h
  have q2 : plTo C r c <+: plAll R C := (List.prefix_append _ _).trans hp
  exact (List.prefix_of_prefix_length_le q1 q2 (by omega)).eq_of_length hl
/-- a valid row of so many heights -/
def rowOk (c : Nat) (Z : List Int) : Bool := decide (Z.length = c) && (decide (Z.length ≠ 0) && (decide (Z.length ≤ 10) && Z.all fun n => inB n 0 1000))
def colsG (G : List (List Int)) : Nat := (G.headD []).length
/-- a valid grid -/
def okG (G : List (List Int)) : Bool := G.all (rowOk (colsG G)) && (decide (0 < G.length) && decide (G.length ≤ 10))
/-- the height at a place -/
def hG (G : List (List Int)) (i k : Nat) : Int := (G.getD i []).getD k 0
structure GR (w : World) (g o cap R C : Nat) (rg ro rc : Nat → Nat) (h : Nat → Nat → Int) : Prop where
  gl : g < w.heap.size
  capR : R ≤ cap
  R1 : 1 ≤ R
  R10 : R ≤ 10
  C1 : 1 ≤ C
  C10 : C ≤ 10
  top : ∀ i, i < R → w.cell? ⟨g, o + i, none⟩ = some (.slice (some ⟨rg i, ro i, none⟩) C (rc i))
  rl : ∀ i, i < R → rg i < w.heap.size
  rcC : ∀ i, i < R → C ≤ rc i
  cel : ∀ i, i < R → ∀ k, k < C → w.cell? ⟨rg i, ro i + k, none⟩ = some (.int .i64 (h i k))
  h0 : ∀ i k, i < R → k < C → 0 ≤ h i k
  h1 : ∀ i k, i < R → k < C → h i k ≤ 1000
theorem GR.below {w w' : World} {g o cap R C : Nat} {rg ro rc : Nat → Nat} {h : Nat → Nat → Int} (x : GR w g o cap R C rg ro rc h) (hb : Below w.heap.size w w') : GR w' g o cap R C rg ro rc h :=
  ⟨Nat.lt_of_lt_of_le x.gl hb.size, x.capR, x.R1, x.R10, x.C1, x.C10, fun i hi => (hb.cell (p := ⟨g, o + i, none⟩) x.gl).trans (x.top i hi), fun i hi => Nat.lt_of_lt_of_le (x.rl i hi) hb.size, x.rcC,
    fun i hi k hk => (hb.cell (p := ⟨rg i, ro i + k, none⟩) (x.rl i hi)).trans (x.cel i hi k hk), x.h0, x.h1⟩
theorem okG_rows {G : List (List Int)} (h : okG G = true) : 1 ≤ G.length ∧ G.length ≤ 10 ∧ 1 ≤ colsG G ∧ colsG G ≤ 10 ∧ ∀ Z ∈ G, Z.length = colsG G ∧ ∀ n ∈ Z, 0 ≤ n ∧ n ≤ 1000 := by
  simp only [okG, rowOk, Bool.and_eq_true, decide_eq_true_eq, List.all_eq_true] at h
  obtain ⟨h1, h2, h3⟩ := h
  have hh : ∀ Z ∈ G, Z.length = colsG G ∧ Z.length ≠ 0 ∧ Z.length ≤ 10 ∧ ∀ n ∈ Z, 0 ≤ n ∧ n ≤ 1000 := fun Z hZ => by
    obtain ⟨a, b, c, d⟩ := h1 Z hZ
    refine ⟨a, b, c, fun n hn => ?_⟩
    have := d n hn
    simp [inB] at this
    exact this
  obtain ⟨Z, hZ⟩ := List.exists_mem_of_length_pos h2
  obtain ⟨a, b, c, _⟩ := hh Z hZ
  exact ⟨h2, h3, by omega, by omega, fun Z hZ => ⟨(hh Z hZ).1, (hh Z hZ).2.2.2⟩⟩
theorem hG_get {G : List (List Int)} {i k : Nat} (hi : i < G.length) (hk : k < G[i].length) : hG G i k = G[i][k] := by
  unfold hG; rw [getD_of _ hi, getD_of _ hk]
theorem grid_GR {w : World} {v : Value} {G : List (List Int)} (hv : GridAt w v G) (hok : okG G = true) :
    ∃ g o cap rg ro rc, v = .slice (some ⟨g, o, none⟩) G.length cap ∧ GR w g o cap G.length (colsG G) rg ro rc (hG G) := by
  obtain ⟨r1, r2, c1, c2, hr⟩ := okG_rows hok
  obtain ⟨a, cap, rfl, hcap, h4⟩ := hv
  rcases h4 with rfl | ⟨g, o, rfl, hg, hc⟩
  · simp at r1
  · have key : ∀ i, ∃ x : Nat × Nat × Nat, i < G.length → w.cell? ⟨g, o + i, none⟩ = some (.slice (some ⟨x.1, x.2.1, none⟩) (colsG G) x.2.2) ∧ x.1 < w.heap.size ∧ colsG G ≤ x.2.2 ∧ ∀ k, k < colsG G → w.cell? ⟨x.1, x.2.1 + k, none⟩ = some (.int .i64 (hG G i k)) := by
      intro i
      by_cases hi : i < G.length
      · obtain ⟨u, hu, a', cap', rfl, hcap', _, hz⟩ := hc i hi
        have hl : G[i].length = colsG G := (hr _ (List.getElem_mem hi)).1
        rcases hz with hz | ⟨g', o', rfl, hg', hc'⟩
        · rw [hz] at hl; simp at hl; omega
        · refine ⟨(g', o', cap'), fun _ => ⟨by rw [hu, hl], hg', by rw [← hl]; exact hcap', fun k hk => ?_⟩⟩
          rw [hc' k (by omega), hG_get hi (by omega)]
      · exact ⟨(0, 0, 0), fun h => absurd h hi⟩
    obtain ⟨f, hf⟩ := Classical.axiomOfChoice key
    refine ⟨g, o, cap, fun i => (f i).1, fun i => (f i).2.1, fun i => (f i).2.2, rfl, hg, hcap, r1, r2, c1, c2, fun i hi => (hf i hi).1, fun i hi => (hf i hi).2.1, fun i hi => (hf i hi).2.2.1, fun i hi k hk => (hf i hi).2.2.2 k hk, ?_, ?_⟩
    · intro i k hi hk
      have hl := (hr _ (List.getElem_mem hi)).1
      rw [hG_get hi (by omega)]
      exact ((hr _ (List.getElem_mem hi)).2 _ (List.getElem_mem _)).1
    · intro i k hi hk
      have hl := (hr _ (List.getElem_mem hi)).1
      rw [hG_get hi (by omega)]
      exact ((hr _ (List.getElem_mem hi)).2 _ (List.getElem_mem _)).2
end Go.Proofs.Ytmppaimcejcoiaa
