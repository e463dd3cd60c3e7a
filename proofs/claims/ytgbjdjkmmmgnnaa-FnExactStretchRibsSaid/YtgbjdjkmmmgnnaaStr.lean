/-
  Ribs that are stretched: what they come to; a row whose lengths are changed one by one.
-/
import Derived.Test.YtgbjdjkmmmgnnaaRibLen
import Derived.Test.YtgbjdjkmmmgnnaaRibsO
import Derived.Laws.IdiomCopy
import Derived.Laws.CopyOwn
namespace Go.Proofs.Ytgbjdjkmmmgnnaa
open Go.ChangeShapes Go.WideShapes Go.ChangeAt Go.RowKit Go.Deep
set_option linter.unusedVariables false
set_option linter.unusedSimpArgs false
set_option maxRecDepth 1000000
theorem run_copy_wide {P : Program} (w : World) (dT sT ty elem : TypeId) (b dLen dCap size : Nat) (a : Addr) (sLen sCap : Nat) (cs : List Value)
    (hu : P.underlying dT = some (.slice elem)) (hs : (P.info? elem).map (·.size) = some size) (hn : cs.length = Nat.min sLen dLen * size)
    (hsrc : ∀ j v, cs[j]? = some v → w.cell? (a.add j) = some v) (ht : w.there b 0 cs.length) (h1 : ∀ v ∈ cs, v.oneCell' = true) :
    (Builtin.copy_ #[dT, sT] ty #[.slice (some ⟨b, 0, none⟩) dLen dCap, .slice (some a) sLen sCap]).run P w = .ok (goInt (Nat.min sLen dLen)) (w.setCells b 0 cs) := by
  have hl := run_loadCells_list (P := P) w a cs hsrc
  have hst := run_storeCells_cells (P := P) b 0 cs 0 w (fun j hj => by simpa using (ht j hj).1) (fun j hj => by simpa using (ht j hj).2) h1
  cases hq : P.info? elem with
  | none => simp [hq] at hs
  | some i =>
    have hi : i.size = size := by simpa [hq] using hs
    simp [Builtin.copy_, run_underlying hu, Builtin.lenOf, Builtin.firstCells, sizeOf, typeInfo, hq, hi, ← hn, hl, hst]
theorem wpList_copy_wide {P : Program} {w : World} {ops : Array Oper} {rest : List Oper} {o : Oper} {a : Act} {Q : Exit → Act → World → Prop} (hgd : o.guard = none) (d s : Operand) (dT sT : TypeId)
    (ho : o.op = .call { callee := .builtin .copy, args := #[d, s], argTypes := #[dT, sT] }) (elem : TypeId) (hu : P.underlying dT = some (.slice elem)) (size : Nat) (hsz : (P.info? elem).map (·.size) = some size)
    (g dLen dCap : Nat) (ad : Addr) (sLen sCap : Nat) (hd : a.eval d = .slice (some ⟨g, 0, none⟩) dLen dCap) (hs : a.eval s = .slice (some ad) sLen sCap)
    (cs : List Value) (hn : cs.length = Nat.min sLen dLen * size) (hsrc : ∀ j v, cs[j]? = some v → w.cell? (ad.add j) = some v) (ht : w.there g 0 cs.length) (h1 : ∀ v ∈ cs, v.oneCell' = true)
    (h : wpList P ops Q rest (a.put o.dst (goInt (Nat.min sLen dLen))) (w.setCells g 0 cs)) : wpList P ops Q (o :: rest) a w := by
  refine wpList_plain hgd fun K hK => ?_
  have hrun := run_copy_wide (P := P) w dT sT o.type elem g dLen dCap size ad sLen sCap cs hu hsz hn hsrc ht h1
  unfold Oper.wp
  simp [execOp, ho, resolve, invoke, builtin, hd, hs, hrun, Result.andThen]
  exact hK _ _ h
/-- ribs with other lengths -/
def ribsF (Z : List Rib) (f : Nat → Int) : List Rib := (List.range Z.length).map fun (i : Nat) => ⟨(Z.getD i rib0).id, f i, (Z.getD i rib0).hgt⟩
theorem ribsF_len (Z : List Rib) (f : Nat → Int) : (ribsF Z f).length = Z.length := by unfold ribsF; simp
theorem ribsF_get (Z : List Rib) (f : Nat → Int) (i : Nat) (hi : i < (ribsF Z f).length) : (ribsF Z f)[i] = ⟨(Z.getD i rib0).id, f i, (Z.getD i rib0).hgt⟩ := by simp only [ribsF, List.getElem_map, List.getElem_range]
theorem ribsF_congr (Z : List Rib) {f g : Nat → Int} (h : ∀ i, i < Z.length → f i = g i) : ribsF Z f = ribsF Z g := by
  apply List.ext_getElem
  · rw [ribsF_len, ribsF_len]
  · intro i h1 h2
    rw [ribsF_get, ribsF_get, h i (by rw [ribsF_len] at h1; exact h1)]
def sumF (f : Nat → Int) : Nat → Int
  | 0 => 0
  | k + 1 => sumF f k + f k
theorem lenS_ribsF (Z : List Rib) (f : Nat → Int) : ∀ k, k ≤ Z.length → lenS (ribsF Z f) k = sumF f k
  | 0, _ => rfl
  | k + 1, hk => by
    show lenS (ribsF Z f) k + _ = sumF f k + f k
    rw [lenS_ribsF Z f k (by omega), rib_getD_at' (by rw [ribsF_len]; omega), ribsF_get]
/-- the length of a rib that is stretched, rounded down -/
def str1 (Z : List Rib) (r : Int) (i : Nat) : Int := r * (Z.getD i rib0).len / lenS Z Z.length
def leftV (Z : List Rib) (r : Int) : Int := r - lenS (ribsF Z (str1 Z r)) Z.length
def strF (Z : List Rib) (r : Int) (i : Nat) : Int := if (i : Int) < leftV Z r then str1 Z r i + 1 else str1 Z r i
def strL (Z : List Rib) (r : Int) : List Rib := ribsF Z (strF Z r)
def strC (Z : List Rib) (r : Int) : Int := if ribsB Z = true then (if inB r 0 100000 = true then (if Z.length = 0 then 6 else if ribsB (strL Z r) = true then 0 else 6) else 2) else 1
def strV (Z : List Rib) (r : Int) : List Rib := if strC Z r = 0 then strL Z r else []
theorem str_bad {Z : List Rib} {r c : Int} (e : strC Z r = c) (hc : c ≠ 0) : strV Z r = [] ∧ strC Z r = c := by unfold strV; rw [e, if_neg hc]; exact ⟨rfl, rfl⟩
theorem str_good {Z : List Rib} {r : Int} (e : strC Z r = 0) : strV Z r = strL Z r ∧ strC Z r = 0 := by unfold strV; rw [e, if_pos rfl]; exact ⟨rfl, rfl⟩
theorem strV_len (Z : List Rib) (r : Int) : (strV Z r).length ≤ 8 := by
  unfold strV
  by_cases h : strC Z r = 0
  · rw [if_pos h]
    unfold strL; rw [ribsF_len]
    unfold strC at h
    by_cases h1 : ribsB Z = true
    · exact ribs_8 h1
    · rw [if_neg h1] at h; exact absurd h (by decide)
  · rw [if_neg h]; simp
theorem len_le_all {Z : List Rib} (h : ribsB Z = true) {k : Nat} (hk : k < Z.length) : (Z.getD k rib0).len ≤ lenS Z Z.length := by
  have h1 := lenS_mono (ribs_lens h) (k + 1) Z.length hk (Nat.le_refl _)
  have h2 := lenS_bd (ribs_lens h) k (by omega)
  have : lenS Z (k + 1) = lenS Z k + (Z.getD k rib0).len := rfl
  omega
theorem mul_nn {a b : Int} (ha : 0 ≤ a) (hb : 0 ≤ b) : 0 ≤ a * b := Int.mul_nonneg ha hb
theorem str_prod {r a : Int} (hr : 0 ≤ r ∧ r ≤ 100000) (ha : 1 ≤ a ∧ a ≤ 10000) : 0 ≤ r * a ∧ r * a ≤ 1000000000 := by
  refine ⟨mul_nn hr.1 (by omega), ?_⟩
  have h1 : r * a ≤ 100000 * a := Int.mul_le_mul_of_nonneg_right hr.2 (by omega)
  omega
theorem str1_bd {Z : List Rib} (h : ribsB Z = true) {r : Int} (hr : 0 ≤ r ∧ r ≤ 100000) {k : Nat} (hk : k < Z.length) : 0 ≤ str1 Z r k ∧ str1 Z r k ≤ 100000 := by
  have hx := ribs_mem h (List.getElem_mem hk)
  have hle := len_le_all h hk
  unfold str1
  rw [rib_getD_at' hk] at hle ⊢
  have hp := str_prod hr hx.1
  refine ⟨Int.ediv_nonneg hp.1 (by omega), ?_⟩
  have h1 : r * Z[k].len ≤ r * lenS Z Z.length := Int.mul_le_mul_of_nonneg_left hle hr.1
  have h2 := Int.ediv_le_of_le_mul (a := r * Z[k].len) (b := r) (c := lenS Z Z.length) (by omega) h1
  omega
theorem sum_two {Z : List Rib} (h : ribsB Z = true) {r : Int} (h0 : 0 < Z.length) : ∀ k, k ≤ Z.length → lenS Z Z.length * sumF (str1 Z r) k ≤ r * lenS Z k ∧ r * lenS Z k ≤ lenS Z Z.length * sumF (str1 Z r) k + (k : Int) * (lenS Z Z.length - 1)
  | 0, _ => by show lenS Z Z.length * 0 ≤ r * 0 ∧ r * 0 ≤ lenS Z Z.length * 0 + _; simp
  | k + 1, hk => by
    have ih := sum_two h (r := r) h0 k (by omega)
    have hL := lenS_ribs h Z.length (Nat.le_refl _)
    have e1 : sumF (str1 Z r) (k + 1) = sumF (str1 Z r) k + str1 Z r k := rfl
    have e2 : lenS Z (k + 1) = lenS Z k + (Z.getD k rib0).len := rfl
    have e3 : str1 Z r k = r * (Z.getD k rib0).len / lenS Z Z.length := rfl
    have d1 := Int.mul_ediv_add_emod (r * (Z.getD k rib0).len) (lenS Z Z.length)
    have d2 := Int.emod_nonneg (r * (Z.getD k rib0).len) (show lenS Z Z.length ≠ 0 by omega)
    have d3 := Int.emod_lt_of_pos (r * (Z.getD k rib0).len) (show 0 < lenS Z Z.length by omega)
    rw [e1, e2, Int.mul_add, Int.mul_add, e3]
    have e4 : ((k + 1 : Nat) : Int) * (lenS Z Z.length - 1) = (k : Int) * (lenS Z Z.length - 1) + (lenS Z Z.length - 1) := by rw [show ((k + 1 : Nat) : Int) = (k : Int) + 1 by omega, Int.add_mul]; omega
    rw [e4]
    constructor <;> omega
theorem left_bd {Z : List Rib} (h : ribsB Z = true) {r : Int} (h0 : 0 < Z.length) : 0 ≤ leftV Z r ∧ leftV Z r < (Z.length : Int) := by
  obtain ⟨h1, h2⟩ := sum_two h (r := r) h0 Z.length (Nat.le_refl _)
  have hL := lenS_ribs h Z.length (Nat.le_refl _)
  unfold leftV
  rw [lenS_ribsF Z _ _ (Nat.le_refl _)]
  obtain ⟨S, hS⟩ : ∃ S, S = sumF (str1 Z r) Z.length := ⟨_, rfl⟩
  obtain ⟨L, hL2⟩ : ∃ L, L = lenS Z Z.length := ⟨_, rfl⟩
  rw [← hS, ← hL2] at h1 h2
  rw [← hL2] at hL
  rw [← hS]
  rw [Int.mul_comm r L] at h1 h2
  have hp : 0 < L := by omega
  refine ⟨by have := Int.le_of_mul_le_mul_left h1 hp; omega, ?_⟩
  have e : (Z.length : Int) * (L - 1) = L * (Z.length : Int) - (Z.length : Int) := by rw [Int.mul_sub, Int.mul_comm, Int.mul_one]
  rw [e] at h2
  have h3 : L * r < L * (S + (Z.length : Int)) := by rw [Int.mul_add]; omega
  have := Int.lt_of_mul_lt_mul_left h3 (by omega)
  omega
/-- a row whose lengths are as told -/
def RowF (Z : List Rib) (g : Nat) (f : Nat → Int) (w : World) : Prop := ∀ i, i < Z.length → w.cell? ⟨g, i * 3, none⟩ = some (.string (Z.getD i rib0).id) ∧ w.cell? ⟨g, i * 3 + 1, none⟩ = some (.int .i64 (f i)) ∧ w.cell? ⟨g, i * 3 + 2, none⟩ = some (.int .i64 (Z.getD i rib0).hgt)
def RowR (Z : List Rib) (f : Nat → Int) (g : Nat) (w wr : World) : Prop := w.heap.size ≤ g ∧ g < wr.heap.size ∧ RowF Z g f wr ∧ wr.there g 0 (Z.length * 3) ∧ Below w.heap.size w wr
theorem RowR.below {Z : List Rib} {f : Nat → Int} {g : Nat} {w wr w2 : World} (h : RowR Z f g w wr) (hb : Below wr.heap.size wr w2) : RowR Z f g w w2 := by
  obtain ⟨h1, h2, h3, h4, h5⟩ := h
  exact ⟨h1, Nat.lt_of_lt_of_le h2 hb.size, fun i hi => ⟨(hb.cell (p := ⟨g, _, none⟩) h2).trans (h3 i hi).1, (hb.cell (p := ⟨g, _, none⟩) h2).trans (h3 i hi).2.1, (hb.cell (p := ⟨g, _, none⟩) h2).trans (h3 i hi).2.2⟩, there_below h4 h2 hb, below2 h5 hb⟩
theorem RowR.congr {Z : List Rib} {f f' : Nat → Int} {g : Nat} {w wr : World} (h : RowR Z f g w wr) (e : ∀ i, i < Z.length → f i = f' i) : RowR Z f' g w wr := by
  obtain ⟨h1, h2, h3, h4, h5⟩ := h
  exact ⟨h1, h2, fun i hi => by rw [← e i hi]; exact h3 i hi, h4, h5⟩
theorem RowR.at {Z : List Rib} {f : Nat → Int} {g : Nat} {w wr : World} (h : RowR Z f g w wr) {k : Nat} (hk : k < Z.length) : wr.cell? ⟨g, k * 3 + 1, none⟩ = some (.int .i64 (f k)) ∧ wr.frozen? ⟨g, k * 3 + 1, none⟩ = false := by
  obtain ⟨h1, h2, h3, h4, h5⟩ := h
  have := (h4 (k * 3 + 1) (by omega)).2
  rw [Nat.zero_add] at this
  exact ⟨(h3 k hk).2.1, this⟩
theorem RowR.set {Z : List Rib} {f : Nat → Int} {g : Nat} {w wr : World} (h : RowR Z f g w wr) {k : Nat} (hk : k < Z.length) (z : Int) : RowR Z (fun i => if i = k then z else f i) g w (wr.setCell ⟨g, k * 3 + 1, none⟩ (.int .i64 z)) := by
  have hat := h.at hk
  obtain ⟨h1, h2, h3, h4, h5⟩ := h
  refine ⟨h1, by simpa using h2, fun i hi => ⟨?_, ?_, ?_⟩, fun j hj => ⟨?_, ?_⟩, h5.setCell (p := ⟨g, k * 3 + 1, none⟩) h1 _⟩
  · exact (World.cell?_setCell_other _ _ _ _ (by simp <;> omega)).trans (h3 i hi).1
  · by_cases e : i = k
    · subst e; simp only [if_true]; exact World.cell?_setCell_same _ _ _ hat.1
    · simp only [e, if_false]
      exact (World.cell?_setCell_other _ _ _ _ (by simp <;> omega)).trans (h3 i hi).2.1
  · exact (World.cell?_setCell_other _ _ _ _ (by simp <;> omega)).trans (h3 i hi).2.2
  · by_cases e : 0 + j = k * 3 + 1
    · rw [e, World.cell?_setCell_same _ _ _ hat.1]; rfl
    · rw [World.cell?_setCell_other _ _ _ _ (by simp <;> omega)]; exact (h4 j hj).1
  · exact (World.frozen?_setCell _ _ _ _).trans (h4 j hj).2
theorem RowR.own {Z : List Rib} {f : Nat → Int} {g cap : Nat} {w wr : World} (h : RowR Z f g w wr) (hcap : Z.length ≤ cap) (hids : ∀ x ∈ Z, x.id.size ≤ maxLen) : OwnRib w.heap.size (.slice (some ⟨g, 0, none⟩) Z.length cap) (ribsF Z f) wr := by
  obtain ⟨h1, h2, h3, h4, h5⟩ := h
  refine ⟨⟨_, cap, by rw [ribsF_len], by rw [ribsF_len]; exact hcap, fun x hx => ?_, Or.inr ⟨g, 0, rfl, h2, fun i hi j v hv => ?_⟩⟩, Or.inr ⟨g, cap, by rw [ribsF_len], h1, h2, by rw [ribsF_len]; exact h4⟩⟩
  · obtain ⟨i, hi, rfl⟩ := List.getElem_of_mem hx
    rw [ribsF_get]
    rw [ribsF_len] at hi
    show (Z.getD i rib0).id.size ≤ maxLen
    rw [rib_getD_at' hi]; exact hids _ (List.getElem_mem hi)
  · have hin : i < Z.length := by rw [ribsF_len] at hi; exact hi
    rw [ribsF_get] at hv
    have h0 := h3 i hin
    match j, hv with
    | 0, hv => rw [Nat.zero_add]; exact h0.1.trans hv
    | 1, hv => rw [Nat.zero_add]; exact h0.2.1.trans hv
    | 2, hv => rw [Nat.zero_add]; exact h0.2.2.trans hv
    | j + 3, hv => simp [Rib.cells] at hv
theorem rowR_of {Z : List Rib} {g : Nat} {w wr : World} (h1 : w.heap.size ≤ g) (h2 : g < wr.heap.size) (hr : wr.rangeAt g 0 (rib_flat Z)) (hth : wr.there g 0 (Z.length * 3)) (hb : Below w.heap.size w wr) : RowR Z (fun i => (Z.getD i rib0).len) g w wr := by
  refine ⟨h1, h2, fun i hi => ?_, hth, hb⟩
  have hq : ∀ j v, j < 3 → (Z[i]).cells[j]? = some v → wr.cell? ⟨g, i * 3 + j, none⟩ = some v := fun j v hj hv => by
    have := hr (i * 3 + j) v ((rib_flat_get Z i hi j hj).trans hv)
    rwa [Nat.zero_add] at this
  exact ⟨by rw [rib_getD_at' hi]; exact hq 0 _ (by omega) rfl, by show wr.cell? _ = some (.int .i64 (Z.getD i rib0).len); rw [rib_getD_at' hi]; exact hq 1 _ (by omega) rfl, by rw [rib_getD_at' hi]; exact hq 2 _ (by omega) rfl⟩
theorem ribs_src {Z : List Rib} {w : World} {gg oo : Nat} (hcc : ∀ i (hi : i < Z.length), w.rangeAt gg (oo + i * 3) Z[i].cells) : ∀ j v, (rib_flat Z)[j]? = some v → w.cell? ⟨gg, oo + j, none⟩ = some v := fun j v hv => by
  have hj : j < Z.length * 3 := by have := (List.getElem?_eq_some_iff.1 hv).1; rwa [rib_flat_len] at this
  have hi : j / 3 < Z.length := by omega
  have h1 := rib_flat_get Z (j / 3) hi (j % 3) (Nat.mod_lt _ (by omega))
  rw [show j / 3 * 3 + j % 3 = j by omega, hv] at h1
  have h2 := hcc (j / 3) hi (j % 3) v h1.symm
  rwa [show oo + j / 3 * 3 + j % 3 = oo + j by omega] at h2
theorem ribs_oneC (Z : List Rib) : ∀ v ∈ rib_flat Z, v.oneCell' = true := fun v hv => by
  unfold rib_flat at hv
  obtain ⟨x, _, hx⟩ := List.mem_flatMap.1 hv
  simp only [Rib.cells, List.mem_cons, List.not_mem_nil, or_false] at hx
  rcases hx with rfl | rfl | rfl <;> rfl
theorem add_plainR (g o j : Nat) : (⟨g, o, none⟩ : Addr).add j = ⟨g, o + j, none⟩ := by simp [Addr.add]
def f1 (Z : List Rib) (r : Int) (k : Nat) (i : Nat) : Int := if i < k then str1 Z r i else (Z.getD i rib0).len
def f2 (Z : List Rib) (r : Int) (k : Nat) (i : Nat) : Int := if i < k then str1 Z r i + 1 else str1 Z r i
theorem f1_step (Z : List Rib) (r : Int) (k : Nat) (z : Int) (hz : z = str1 Z r k) (i : Nat) : (if i = k then z else f1 Z r k i) = f1 Z r (k + 1) i := by
  subst hz; unfold f1
  by_cases e : i = k
  · subst e; rw [if_pos rfl, if_pos (by omega)]
  · rw [if_neg e]
    by_cases h : i < k
    · rw [if_pos h, if_pos (by omega)]
    · rw [if_neg h, if_neg (by omega)]
theorem f2_step (Z : List Rib) (r : Int) (k : Nat) (i : Nat) : (if i = k then str1 Z r k + 1 else f2 Z r k i) = f2 Z r (k + 1) i := by
  unfold f2
  by_cases e : i = k
  · subst e; rw [if_pos rfl, if_pos (by omega)]
  · rw [if_neg e]
    by_cases h : i < k
    · rw [if_pos h, if_pos (by omega)]
    · rw [if_neg h, if_neg (by omega)]
theorem str_lens {Z : List Rib} (h : ribsB Z = true) {r : Int} (hr : 0 ≤ r ∧ r ≤ 100000) : lensOk (ribsF Z (str1 Z r)) := by
  refine ⟨by rw [ribsF_len]; exact ribs_8 h, fun x hx => ?_⟩
  obtain ⟨i, hi, rfl⟩ := List.getElem_of_mem hx
  rw [ribsF_get]
  have := str1_bd h hr (k := i) (by rw [ribsF_len] at hi; exact hi)
  show 0 ≤ str1 Z r i ∧ str1 Z r i ≤ 1000000
  omega
end Go.Proofs.Ytgbjdjkmmmgnnaa
