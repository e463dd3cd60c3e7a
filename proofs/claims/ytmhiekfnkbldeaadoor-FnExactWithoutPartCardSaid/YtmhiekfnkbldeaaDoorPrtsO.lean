/-
  Rows of Part of the call's own; the law's marks on them, and its look at them.
-/
import Derived.Test.YtmhiekfnkbldeaaDoorPrtsM
import Derived.Test.YtmhiekfnkbldeaaDoorPrts3
import Derived.Test.YtmhiekfnkbldeaaDoorSplit
namespace Go.Proofs.YtmhiekfnkbldeaaDoor
open Go.ChangeShapes Go.WideShapes Go.ChangeAt Go.RowKit Go.Deep
set_option linter.unusedVariables false
set_option linter.unusedSimpArgs false
set_option maxRecDepth 1000000
theorem one_box (w : World) (cs : Array Value) (T : TypeId) : (∀ i v, cs[i]? = some v → (w.alloc (.cells cs T)).cell? ⟨w.heap.size, i, none⟩ = some v) ∧ Below w.heap.size w (w.alloc (.cells cs T)) ∧ w.heap.size < (w.alloc (.cells cs T)).heap.size :=
  ⟨fun i v h => cellB (heap_alloc_new _ _) i v h, (Below.refl _ _).alloc (Nat.le_refl _) _, by simp⟩
/-- all cells of a list of such structs -/
def prt_flat (Z : List Prt) : List Value := Z.flatMap Prt.cells
theorem prt_cellsN (x : Prt) : x.cells.length = 3 := rfl
theorem prt_flat_len : ∀ Z : List Prt, (prt_flat Z).length = Z.length * 3
  | [] => rfl
  | x :: Z => by
    have := prt_flat_len Z
    unfold prt_flat at this ⊢
    rw [List.flatMap_cons, List.length_append, this, prt_cellsN, List.length_cons]; omega
theorem prt_flat_get : ∀ (Z : List Prt) (i : Nat) (hi : i < Z.length) (j : Nat), j < 3 → (prt_flat Z)[i * 3 + j]? = (Z[i]).cells[j]?
  | x :: Z, 0, _, j, hj => by
    unfold prt_flat
    rw [List.flatMap_cons, Nat.zero_mul, Nat.zero_add, List.getElem?_append_left (by rw [prt_cellsN]; exact hj)]; rfl
  | x :: Z, i + 1, hi, j, hj => by
    have := prt_flat_get Z i (by simpa using hi) j hj
    unfold prt_flat at this ⊢
    rw [List.flatMap_cons, List.getElem?_append_right (by rw [prt_cellsN]; omega), prt_cellsN, show (i + 1) * 3 + j - 3 = i * 3 + j by omega, this]; rfl
/-- a row of such structs of the call's own -/
def OwnPrt (B : Nat) (v : Value) (Z : List Prt) (w : World) : Prop := PrtsAt w v Z ∧ ((Z = [] ∧ v = .slice none 0 0) ∨ ∃ g cap, v = .slice (some ⟨g, 0, none⟩) Z.length cap ∧ B ≤ g ∧ g < w.heap.size ∧ w.there g 0 (Z.length * 3))
theorem OwnPrt.below {B : Nat} {v : Value} {Z : List Prt} {w w' : World} (h : OwnPrt B v Z w) (hb : Below w.heap.size w w') : OwnPrt B v Z w' := by
  obtain ⟨h1, h2⟩ := h
  refine ⟨h1.below hb, ?_⟩
  rcases h2 with h2 | ⟨g, cap, e, h3, h4, h5⟩
  · exact Or.inl h2
  · exact Or.inr ⟨g, cap, e, h3, Nat.lt_of_lt_of_le h4 hb.size, there_below h5 h4 hb⟩
theorem OwnPrt.low {B B' : Nat} {v : Value} {Z : List Prt} {w : World} (h : OwnPrt B v Z w) (hb : B' ≤ B) : OwnPrt B' v Z w := by
  obtain ⟨h1, h2⟩ := h
  refine ⟨h1, ?_⟩
  rcases h2 with h2 | ⟨g, cap, e, h3, h4, h5⟩
  · exact Or.inl h2
  · exact Or.inr ⟨g, cap, e, Nat.le_trans hb h3, h4, h5⟩
theorem prt_ownNil (B : Nat) (w : World) : OwnPrt B (.slice none 0 0) [] w := ⟨⟨none, 0, rfl, Nat.le_refl _, fun _ h => absurd h (List.not_mem_nil), Or.inl rfl⟩, Or.inl ⟨rfl, rfl⟩⟩
theorem prt_ownNew (W : World) (Z : List Prt) (cs : Array Value) (hcs : cs.toList = prt_flat Z) (hids : ∀ x ∈ Z, x.id.size ≤ maxLen) : OwnPrt W.heap.size (.slice (some ⟨W.heap.size, 0, none⟩) Z.length Z.length) Z (W.alloc (.cells cs 43)) := by
  obtain ⟨q1, hB, hs⟩ := one_box W cs 43
  have hq : ∀ i v, (prt_flat Z)[i]? = some v → (W.alloc (.cells cs 43)).cell? ⟨W.heap.size, i, none⟩ = some v := fun i v h => q1 i v (by rw [← hcs] at h; simpa using h)
  refine ⟨⟨_, _, rfl, Nat.le_refl _, hids, Or.inr ⟨W.heap.size, 0, rfl, hs, fun i hi j v hv => ?_⟩⟩, Or.inr ⟨_, _, rfl, Nat.le_refl _, hs, fun j hj => ⟨?_, ?_⟩⟩⟩
  · have hj : j < 3 := by have := (List.getElem?_eq_some_iff.1 hv).1; rwa [prt_cellsN] at this
    rw [Nat.zero_add]
    exact hq _ _ ((prt_flat_get Z i hi j hj).trans hv)
  · rw [Nat.zero_add]
    obtain ⟨u, hu⟩ : ∃ u, (prt_flat Z)[j]? = some u := ⟨_, List.getElem?_eq_getElem (by rw [prt_flat_len]; exact hj)⟩
    rw [hq _ _ hu]; rfl
  · exact freeB (heap_alloc_new _ _) _
/-- a row of such structs and a code -/
def RowPrt (Z : List Prt) (c : Int) (w : World) (e : Ending) (w' : World) : Prop := ∃ v, e = .returned (.tuple #[v, .int .i64 c]) ∧ OwnPrt w.heap.size v Z w' ∧ Below w.heap.size w w'
theorem prt_rowMk {Z Z' : List Prt} {c c' : Int} {v : Value} {w w' : World} {B : Nat} (hZ : Z = Z') (hc : c = c') (hB : w.heap.size ≤ B) (h : OwnPrt B v Z' w') (hb : Below w.heap.size w w') : RowPrt Z c w (.returned (.tuple #[v, .int .i64 c'])) w' := by
  subst hZ hc; exact ⟨_, rfl, h.low hB, hb⟩
theorem prt_rowNil {Z : List Prt} {c c' : Int} {w w' : World} (hZ : Z = []) (hc : c = c') (hb : Below w.heap.size w w') : RowPrt Z c w (.returned (.tuple #[.slice none 0 0, .int .i64 c'])) w' := by
  subst hZ hc; exact ⟨_, rfl, prt_ownNil _ _, hb⟩
theorem OwnPrt.lt {B : Nat} {v : Value} {Z : List Prt} {w : World} (h : OwnPrt B v Z w) (k : Nat) (hk : v.ownBlock = some k) : B ≤ k ∧ k < w.heap.size := by
  rcases h.2 with ⟨_, rfl⟩ | ⟨g, cap, rfl, h3, h4, _⟩
  · simp [Value.ownBlock] at hk
  · have e : g = k := by simpa [Value.ownBlock] using hk
    exact ⟨e ▸ h3, e ▸ h4⟩
theorem OwnPrt.apart {B : Nat} {v u : Value} {Z Y : List Prt} {w w' : World} (h : OwnPrt B v Z w) (k : OwnPrt w.heap.size u Y w') : v.ownBlock = none ∨ v.ownBlock ≠ u.ownBlock := by
  cases e : v.ownBlock with
  | none => exact Or.inl rfl
  | some g =>
    refine Or.inr fun hu => ?_
    have := (h.lt g e).2
    have := (k.lt g hu.symm).1
    omega
theorem prt_grownCell {w w' : World} {r : Option Nat} (hg : w.grownBy w' r) {b o : Nat} (hb : b < w.heap.size) (hr : some b ≠ r) : w'.cell? ⟨b, o, none⟩ = w.cell? ⟨b, o, none⟩ := World.cell?_of_block (w := w) (hg.block b hb hr)
theorem prt_grownFrozen {w w' : World} {r : Option Nat} (hg : w.grownBy w' r) {b o : Nat} (hb : b < w.heap.size) (hr : some b ≠ r) : w'.frozen? ⟨b, o, none⟩ = w.frozen? ⟨b, o, none⟩ := World.frozen?_of_block (w := w) (hg.block b hb hr)
theorem OwnPrt.grown {B : Nat} {v : Value} {Z : List Prt} {w w' : World} {r : Option Nat} (h : OwnPrt B v Z w) (hg : w.grownBy w' r) (hr : v.ownBlock = none ∨ v.ownBlock ≠ r) : OwnPrt B v Z w' := by
  obtain ⟨h1, h2⟩ := h
  rcases h2 with ⟨rfl, rfl⟩ | ⟨g, cap, rfl, hB, hlt, hth⟩
  · exact prt_ownNil _ _
  · have hne : some g ≠ r := by
      rcases hr with hr | hr
      · simp [Value.ownBlock] at hr
      · simpa [Value.ownBlock] using hr
    refine ⟨?_, Or.inr ⟨g, cap, rfl, hB, Nat.lt_of_lt_of_le hlt hg.size, fun j hj => ⟨?_, ?_⟩⟩⟩
    · obtain ⟨a, cap', e, hcap, hids, hread⟩ := h1
      injection e with e1 _ e3
      subst e1 e3
      refine ⟨_, _, rfl, hcap, hids, ?_⟩
      rcases hread with hz | ⟨g', o', e', hg', hc⟩
      · exact Or.inl hz
      · injection e' with e'
        injection e' with e1 e2
        subst e1 e2
        exact Or.inr ⟨g, 0, rfl, Nat.lt_of_lt_of_le hlt hg.size, fun i hi j v hv => (prt_grownCell hg hlt hne).trans (hc i hi j v hv)⟩
    · rw [prt_grownCell hg hlt hne]; exact (hth j hj).1
    · rw [prt_grownFrozen hg hlt hne]; exact (hth j hj).2
/-- the mark at place i -/
def prt_mk (k0 i : Nat) : Value := if i % 3 = 0 then .string (markB (k0 + i)) else .int .i64 ((k0 + i : Nat) : Int)
theorem prt_mk0 {k0 j m : Nat} (hm : m = k0 + j * 3) : prt_mk k0 (j * 3 + 0) = .string (markB m) := by
  subst hm; unfold prt_mk
  rw [if_pos (by omega)]; rfl

theorem prt_mk1 {k0 j m : Nat} (hm : m = k0 + j * 3) : prt_mk k0 (j * 3 + 1) = .int .i64 ((m : Int) + 1) := by
  subst hm; unfold prt_mk
  rw [if_neg (by omega)]
  try (congr 1 <;> omega)
theorem prt_mk2 {k0 j m : Nat} (hm : m = k0 + j * 3) : prt_mk k0 (j * 3 + 2) = .int .i64 ((m : Int) + 1 + 1) := by
  subst hm; unfold prt_mk
  rw [if_neg (by omega)]
  try (congr 1 <;> omega)
theorem prt_marks {w : World} {g n j k0 m : Nat} (hm : m = k0 + j * 3) (hth : w.there g 0 (n * 3)) (hjn : j * 3 + 3 ≤ n * 3) (hd : ∀ i, i < j * 3 → w.cell? ⟨g, i, none⟩ = some (prt_mk k0 i)) : ∀ i, i < (j + 1) * 3 → (w.setCells g (j * 3) [.string (markB m), .int .i64 ((m : Int) + 1), .int .i64 ((m : Int) + 1 + 1)]).cell? ⟨g, i, none⟩ = some (prt_mk k0 i) := by
  intro i hi
  rcases Nat.lt_or_ge i (j * 3) with h | h
  · have h1 : w.rangeAt g i [prt_mk k0 i] := fun q v hv => by
      match q, hv with
      | 0, hv => rw [Nat.add_zero, hd i h]; exact hv
      | q + 1, hv => simp at hv
    exact World.rangeAt_setCells_apart h1 _ _ _ (Or.inr (Or.inl (by simp; omega))) 0 _ rfl
  · obtain ⟨q, rfl⟩ : ∃ q, i = j * 3 + q := ⟨i - j * 3, by omega⟩
    have hq : q < 3 := by omega
    match q, hq with
      | 0, _ => exact (World.rangeAt_setCells_same w g (j * 3) [.string (markB m), .int .i64 ((m : Int) + 1), .int .i64 ((m : Int) + 1 + 1)] (there_part hth _ _ (by simpa using hjn)) 0 _ rfl).trans (congrArg some (prt_mk0 hm).symm)
      | 1, _ => exact (World.rangeAt_setCells_same w g (j * 3) [.string (markB m), .int .i64 ((m : Int) + 1), .int .i64 ((m : Int) + 1 + 1)] (there_part hth _ _ (by simpa using hjn)) 1 _ rfl).trans (congrArg some (prt_mk1 hm).symm)
      | 2, _ => exact (World.rangeAt_setCells_same w g (j * 3) [.string (markB m), .int .i64 ((m : Int) + 1), .int .i64 ((m : Int) + 1 + 1)] (there_part hth _ _ (by simpa using hjn)) 2 _ rfl).trans (congrArg some (prt_mk2 hm).symm)
set_option maxHeartbeats 3200000 in
theorem markPartS_row (g n cap k0 : Nat) (w : World) (hn : n ≤ 1048576) (hk0 : 0 < k0) (hk1 : k0 ≤ 1000000000) (hg : g < w.heap.size) (hth : w.there g 0 (n * 3)) : Calls Tryd.prog 15 #[.slice (some ⟨g, 0, none⟩) n cap, .int .i64 k0] w fun e w' => e = .returned (.int .i64 ((k0 + n * 3 : Nat) : Int)) ∧ w.grownBy w' (some g) ∧ ∀ i, i < n * 3 → w'.cell? ⟨g, i, none⟩ = some (prt_mk k0 i) := by
  have hth' := Lib.hid hth
  clear hth
  go_enter Tryd.func15, Tryd.ntmps15
  go_wp2
  go_loopw [1, 5] (fun q i wr => ∃ j m : Nat, j ≤ n ∧ i = .int .i64 j ∧ q = .int .i64 m ∧ 0 < m ∧ m ≤ 2000000000 ∧ Hid (m = k0 + j * 3) ∧ Hid (wr.there g 0 (n * 3)) ∧ g < wr.heap.size ∧ Hid (w.grownBy wr (some g)) ∧ Hid (∀ i, i < j * 3 → wr.cell? ⟨g, i, none⟩ = some (prt_mk k0 i))) (fun _ i _ => n - (intOf i).toNat)
  case atStart => exact ⟨0, k0, by omega, rfl, rfl, hk0, by omega, Lib.hid (by omega), hth', hg, Lib.hid (World.grownBy.refl _ _), Lib.hid (fun i hi => absurd hi (by omega))⟩
  case round =>
    obtain ⟨j, m, hj, rfl, rfl, hm0, hm1, hm, hth2, hlt2, hgr, hd⟩ := hrel
    have hm' := hm.out
    by_cases hlt : j < n
    · have hjI : (j : Int) < (n : Int) := by omega
      have hm2 : m ≤ 1999999000 := by omega
      have hmI : (m : Int) ≤ 1999999000 := by omega
      have hmn : Hid (m + 3 = k0 + (j + 1) * 3) := Lib.hid (by omega)
      have hjn : Hid (j * 3 + 3 ≤ n * 3) := Lib.hid (by omega)
      clear hm'
      go_wp2_with (go_at_call 34; refine (markText_v m (by omega) hm0 _).mono ?_; rintro e w2 ⟨rfl, hb2⟩; have hth3 := Lib.hid (there_below hth2.out hlt2 hb2); have hlt3 := Nat.lt_of_lt_of_le hlt2 hb2.size; have hgr3 := Lib.hid (gtrans hgr.out (below_grown' hb2 _)); have hd3 := Lib.hid (prt_marks hm.out hth3.out hjn.out (fun i hi => (hb2.cell (p := ⟨g, i, none⟩) hlt2).trans (hd.out i hi))); obtain ⟨⟨y0, c0⟩, f0⟩ := there_cells hth3.out (j * 3) (by have := hjn.out; omega); obtain ⟨⟨y1, c1⟩, f1⟩ := there_cells hth3.out (j * 3 + 1) (by have := hjn.out; omega); obtain ⟨⟨y2, c2⟩, f2⟩ := there_cells hth3.out (j * 3 + 2) (by have := hjn.out; omega); clear hb2)
      go_roundw
      case rel => exact ⟨j + 1, m + 3, by omega, by go_num, by go_num, by omega, by omega, hmn, Lib.hid (World.there_setCells hth3.out g (j * 3) [.string (markB m), .int .i64 ((m : Int) + 1), .int .i64 ((m : Int) + 1 + 1)]), by simp; omega, Lib.hid (gtrans hgr3.out (grown_sets g [.string (markB m), .int .i64 ((m : Int) + 1), .int .i64 ((m : Int) + 1 + 1)] (j * 3) _)), hd3⟩
      case measure => simp [intOf]; omega
    · obtain rfl : j = n := by omega
      have hm3 : Hid (m = k0 + j * 3) := hm
      clear hm'
      go_wp2
      go_ret
      exact ⟨ret_int (by rw [hm3.out]), hgr.out, hd.out⟩
set_option maxHeartbeats 3200000 in
theorem heldPartS_row (g n cap k0 : Nat) (w : World) (hn : n ≤ 1048576) (hk0 : 0 < k0) (hk1 : k0 ≤ 1000000000) (hg : g < w.heap.size) (hc0 : ∀ i, i < n * 3 → w.cell? ⟨g, i, none⟩ = some (prt_mk k0 i)) : Calls Tryd.prog 16 #[.slice (some ⟨g, 0, none⟩) n cap, .int .i64 k0] w fun e w' => e = .returned (.int .i64 ((k0 + n * 3 : Nat) : Int)) ∧ Below w.heap.size w w' := by
  have hc := Lib.hid hc0
  clear hc0
  go_enter Tryd.func16, Tryd.ntmps16
  go_wp2
  go_loopw [1, 5] (fun q i wr => ∃ j m : Nat, j ≤ n ∧ i = .int .i64 j ∧ q = .int .i64 m ∧ 0 < m ∧ m ≤ 2000000000 ∧ Hid (m = k0 + j * 3) ∧ Hid (Below w.heap.size w wr)) (fun _ i _ => n - (intOf i).toNat)
  case atStart => exact ⟨0, k0, by omega, rfl, rfl, hk0, by omega, Lib.hid (by omega), Lib.hid (Below.refl _ _)⟩
  case round =>
    obtain ⟨j, m, hj, rfl, rfl, hm0, hm1, hm, hbel⟩ := hrel
    have hm' := hm.out
    by_cases hlt : j < n
    · have hjI : (j : Int) < (n : Int) := by omega
      have hm2 : m ≤ 1999999000 := by omega
      have hmI : (m : Int) ≤ 1999999000 := by omega
      have hmn : Hid (m + 3 = k0 + (j + 1) * 3) := Lib.hid (by omega)
      have hgr : g < wr.heap.size := Nat.lt_of_lt_of_le hg hbel.out.size
      have c0 : wr.cell? ⟨g, j * 3, none⟩ = some (.string (markB m)) := (hbel.out.cell (p := ⟨g, j * 3, none⟩) hg).trans ((hc.out (j * 3) (by omega)).trans (congrArg some (prt_mk0 hm')))
      have cc : Hid (∀ W, Below w.heap.size w W → W.cell? ⟨g, j * 3 + 1, none⟩ = some (.int .i64 ((m : Int) + 1)) ∧ W.cell? ⟨g, j * 3 + 2, none⟩ = some (.int .i64 ((m : Int) + 1 + 1))) := Lib.hid (fun W hb => ⟨(hb.cell (p := ⟨g, j * 3 + 1, none⟩) hg).trans ((hc.out (j * 3 + 1) (by omega)).trans (congrArg some (prt_mk1 hm'))), (hb.cell (p := ⟨g, j * 3 + 2, none⟩) hg).trans ((hc.out (j * 3 + 2) (by omega)).trans (congrArg some (prt_mk2 hm')))⟩)
      have cM := Lib.hid (fun W => markText_v m (by omega) hm0 W)
      have keep : ∀ W1 W2, (W1.cell? ⟨g, j * 3, none⟩ = some (.string (markB m)) ∧ Below wr.heap.size wr W1) → Below W1.heap.size W1 W2 → (W2.cell? ⟨g, j * 3, none⟩ = some (.string (markB m)) ∧ Below wr.heap.size wr W2) := fun W1 W2 h1 h2 => ⟨(h2.cell (p := ⟨g, j * 3, none⟩) (Nat.lt_of_lt_of_le hgr h1.2.size)).trans h1.1, h1.2.trans (h2.mono h1.2.size)⟩
      have keepH := Lib.hid keep
      have hS : (wr.cell? ⟨g, j * 3, none⟩ = some (.string (markB m)) ∧ Below wr.heap.size wr wr) := ⟨c0, Below.refl _ _⟩
      clear hm' keep c0
      go_wp2
      go_region_held3 (fun w' => (w'.cell? ⟨g, j * 3, none⟩ = some (.string (markB m)) ∧ Below wr.heap.size wr w'))
        (first | exact ⟨hS.1, belowN hS.2 1⟩ | exact keepH.out _ _ (by assumption) (by assumption) | assumption)
        (first | (go_at_call 34; (with_reducible refine (cM.out _).mono ?_); rintro e w' ⟨rfl, hbelM⟩))
      rename_i hHeld
      have hb2 := Lib.hid (below2 hbel.out hHeld.2)
      obtain ⟨c1, c2⟩ := cc.out _ hb2.out
      clear hS keepH hHeld
      go_wp2
      go_roundw
      case rel => exact ⟨j + 1, m + 3, by omega, by go_num, by go_num, by omega, by omega, hmn, hb2⟩
      case measure => simp [intOf]; omega
    · obtain rfl : j = n := by omega
      have hm3 : Hid (m = k0 + j * 3) := hm
      clear hm'
      go_wp2
      go_ret
      exact ⟨ret_int (by rw [hm3.out]), hbel.out⟩
/-- a row whose cells are marks -/
def MarkPrt (n : Nat) (v : Value) (k0 : Nat) (w : World) : Prop := (n = 0 ∧ v = .slice none 0 0) ∨ ∃ g cap, v = .slice (some ⟨g, 0, none⟩) n cap ∧ g < w.heap.size ∧ ∀ i, i < n * 3 → w.cell? ⟨g, i, none⟩ = some (prt_mk k0 i)
theorem MarkPrt.below {n k0 : Nat} {v : Value} {w w' : World} (h : MarkPrt n v k0 w) (hb : Below w.heap.size w w') : MarkPrt n v k0 w' := by
  rcases h with h | ⟨g, cap, e, hlt, hc⟩
  · exact Or.inl h
  · exact Or.inr ⟨g, cap, e, Nat.lt_of_lt_of_le hlt hb.size, fun i hi => (hb.cell (p := ⟨g, i, none⟩) hlt).trans (hc i hi)⟩
theorem markPartS_own (v : Value) (Z : List Prt) (k0 B : Nat) (w : World) (hn : Z.length ≤ 1048576) (hk0 : 0 < k0) (hk1 : k0 ≤ 1000000000) (h : OwnPrt B v Z w) : Calls Tryd.prog 15 #[v, .int .i64 k0] w fun e w' => e = .returned (.int .i64 ((k0 + Z.length * 3 : Nat) : Int)) ∧ MarkPrt Z.length v k0 w' ∧ w.grownBy w' v.ownBlock := by
  rcases h.2 with ⟨rfl, rfl⟩ | ⟨g, cap, rfl, hB, hlt, hth⟩
  · clear h
    go_enter Tryd.func15, Tryd.ntmps15
    go_wp2
    refine wp_loop_rounds 1 ?_
    rw [rounds_succ]
    go_wp2
    go_ret
    exact ⟨rfl, Or.inl ⟨rfl, rfl⟩, World.grownBy.refl _ _⟩
  · refine (markPartS_row g Z.length cap k0 w hn hk0 hk1 hlt hth).mono ?_
    rintro e w' ⟨rfl, hg, hc⟩
    exact ⟨rfl, Or.inr ⟨g, cap, rfl, Nat.lt_of_lt_of_le hlt hg.size, hc⟩, hg⟩
theorem heldPartS_own (v : Value) (n k0 : Nat) (w : World) (hn : n ≤ 1048576) (hk0 : 0 < k0) (hk1 : k0 ≤ 1000000000) (h : MarkPrt n v k0 w) : Calls Tryd.prog 16 #[v, .int .i64 k0] w fun e w' => e = .returned (.int .i64 ((k0 + n * 3 : Nat) : Int)) ∧ Below w.heap.size w w' := by
  rcases h with ⟨rfl, rfl⟩ | ⟨g, cap, rfl, hlt, hc⟩
  · go_enter Tryd.func16, Tryd.ntmps16
    go_wp2
    refine wp_loop_rounds 1 ?_
    rw [rounds_succ]
    go_wp2
    go_ret
    exact ⟨rfl, Below.refl _ _⟩
  · exact heldPartS_row g n cap k0 w hn hk0 hk1 hlt hc
end Go.Proofs.YtmhiekfnkbldeaaDoor
