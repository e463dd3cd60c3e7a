/-
  Texts that stand together: CtsM, RowC, RowE, ColG, Ord.
-/
import Derived.ChangeAgain
import Derived.Deep.RegionHeld3
import Derived.Laws.FloatArith
import Derived.Test.YtgfhjcbmilaegaaGreatDoorMg2
import Derived.Test.YtgfhjcbmilaegaaGreatDoorMg3
import Derived.Test.YtgfhjcbmilaegaaGreatDoorMg4
import Derived.Test.YtgfhjcbmilaegaaGreatDoorMg5
namespace Go.Proofs.YtgfhjcbmilaegaaGreatDoor
open Go.ChangeShapes Go.WideShapes Go.ChangeAt Go.RowKit Go.Deep
set_option linter.unusedVariables false
set_option linter.unusedSimpArgs false
set_option maxRecDepth 1000000
theorem thereCells {w : World} {b n : Nat} (h : w.there b 0 n) (i : Nat) (hi : i < n) : (∃ old, w.cell? ⟨b, i, none⟩ = some old) ∧ w.frozen? ⟨b, i, none⟩ = false := by
  have := h i hi
  rw [Nat.zero_add] at this
  exact ⟨Option.isSome_iff_exists.1 this.1, this.2⟩
theorem OwnC.apartG {lo hi g N : Nat} {w : World} {Z : List Ct} {us : List Value} (h : OwnC lo hi w g N Z us) {i : Nat} {u : Value} (e : us[i]? = some u) : u.ownBlock = none ∨ u.ownBlock ≠ some g := by
  cases e3 : u.ownBlock with
  | none => exact Or.inl rfl
  | some b => right; intro hh; exact (h.rowIn i u e b e3).2 (by injection hh)
theorem OwnC.head {lo hi g N k : Nat} {w : World} {Z : List Ct} {us : List Value} (h : OwnC lo hi w g N Z us) (s : ByteArray) (a b : Int) {x : Ct} (hx : Z[k]? = some x) (o : Nat) (ho : o = k * 4) :
    OwnC lo hi (w.setCells g o [.string s, .int .i64 a, .int .i64 b]) g N (Z.set k ⟨s, a, b, x.col⟩) us := by
  subst ho
  have hk : k < Z.length := (List.getElem?_eq_some_iff.1 hx).1
  have hN := h.room
  have hgr : w.grownBy (w.setCells g (k * 4) [.string s, .int .i64 a, .int .i64 b]) (some g) := grownSets _ _ _ _
  refine ⟨by rw [size_sets]; exact h.hiW, h.gIn, by simp [h.len], by simpa using h.room, World.there_setCells h.th _ _ _, ?_, ?_, h.apart, ?_, h.rowIn⟩
  · intro i u y e1 e2
    by_cases hik : i = k
    · subst hik
      rw [List.getElem?_set_self hk] at e2
      cases e2
      have hold := h.cells i u x e1 hx
      intro j v hv
      match j, hv with
      | 0, hv => exact World.rangeAt_setCells_same w g (i * 4) [.string s, .int .i64 a, .int .i64 b] (there_part h.th _ 3 (by omega)) 0 v hv
      | 1, hv => exact World.rangeAt_setCells_same w g (i * 4) [.string s, .int .i64 a, .int .i64 b] (there_part h.th _ 3 (by omega)) 1 v hv
      | 2, hv => exact World.rangeAt_setCells_same w g (i * 4) [.string s, .int .i64 a, .int .i64 b] (there_part h.th _ 3 (by omega)) 2 v hv
      | 3, hv =>
        have h3 : w.rangeAt g (i * 4 + 3) [u] := fun q z hz => by
          match q, hz with
          | 0, hz => have := hold 3 u rfl; simpa [Nat.add_assoc] using (by simpa using hz : u = z) ▸ this
        have := World.rangeAt_setCells_apart h3 g (i * 4) [.string s, .int .i64 a, .int .i64 b] (Or.inr (Or.inr (by simp))) 0 u rfl
        have hv' : u = v := by simpa [Ct.cells] using hv
        rw [← hv']; simpa using this
    · rw [List.getElem?_set_ne (Ne.symm hik)] at e2
      exact World.rangeAt_setCells_apart (h.cells i u y e1 e2) _ _ _ (by simp [Ct.cells]; omega)
  · intro i u y e1 e2
    by_cases hik : i = k
    · subst hik
      rw [List.getElem?_set_self hk] at e2
      cases e2
      exact (h.row i u x e1 hx).kept hgr (h.apartG e1)
    · rw [List.getElem?_set_ne (Ne.symm hik)] at e2
      exact (h.row i u y e1 e2).kept hgr (h.apartG e1)
  · intro y hy
    rcases List.mem_or_eq_of_mem_set hy with h4 | rfl
    · exact h.inn y h4
    · exact h.inn x (List.mem_of_getElem? hx)
theorem OwnC.over {lo hi g N k : Nat} {w w2 : World} {Z : List Ct} {us : List Value} (h : OwnC lo hi w g N Z us) {x : Ct} {u : Value} (hx : Z[k]? = some x) (hu : us[k]? = some u) (L : List Int) (hg : w.grownBy w2 u.ownBlock)
    (ho : w2.ownsRow lo 2 1 u L.length (L.map encI)) (hz : ∀ n ∈ L, inI n) : OwnC lo hi w2 g N (Z.set k ⟨x.id, x.days, x.cover, L⟩) us := by
  have hk : k < Z.length := (List.getElem?_eq_some_iff.1 hx).1
  have hgl : g < w.heap.size := Nat.lt_of_lt_of_le h.gIn.2 h.hiW
  have hgu : some g ≠ u.ownBlock := by
    rcases h.apartG hu with e | e
    · rw [e]; simp
    · exact fun h => e h.symm
  have hcell : ∀ {o : Nat}, w2.cell? ⟨g, o, none⟩ = w.cell? ⟨g, o, none⟩ := fun {o} => World.cell?_of_block (w := w) (hg.block g hgl hgu)
  have hfro : ∀ {o : Nat}, w2.frozen? ⟨g, o, none⟩ = w.frozen? ⟨g, o, none⟩ := fun {o} => by unfold World.frozen?; rw [hg.block g hgl hgu]
  refine ⟨Nat.le_trans h.hiW hg.size, h.gIn, by simp [h.len], by simpa using h.room, fun j hj => ⟨by rw [hcell]; exact (h.th j hj).1, by rw [hfro]; exact (h.th j hj).2⟩, ?_, ?_, h.apart, ?_, h.rowIn⟩
  · intro i u' y e1 e2 j v hv
    rw [hcell]
    by_cases hik : i = k
    · subst hik
      rw [List.getElem?_set_self hk] at e2
      cases e2
      exact h.cells i u' x e1 hx j v hv
    · rw [List.getElem?_set_ne (Ne.symm hik)] at e2
      exact h.cells i u' y e1 e2 j v hv
  · intro i u' y e1 e2
    by_cases hik : i = k
    · subst hik
      rw [List.getElem?_set_self hk] at e2
      rw [hu] at e1
      cases e1; cases e2
      exact ho
    · rw [List.getElem?_set_ne (Ne.symm hik)] at e2
      exact (h.row i u' y e1 e2).kept hg (h.apart i k u' u hik e1 hu)
  · intro y hy
    rcases List.mem_or_eq_of_mem_set hy with h4 | rfl
    · exact h.inn y h4
    · exact hz
theorem Aside.below' {lo hi : Nat} {w w' : World} (h : Below w.heap.size w w') : Aside lo hi w w' := Aside.of_below h
theorem marksIn {k0 n : Nat} (h : k0 + n ≤ 1000000000000) : ∀ x ∈ ((List.range n).map fun i => ((k0 + i : Nat) : Int)), inI x := by
  intro x hx
  obtain ⟨i, hi, rfl⟩ := List.mem_map.1 hx
  have := List.mem_range.1 hi
  unfold inI
  omega
/-- the same sizes -/
def SameC (Z Y : List Ct) : Prop := Y.length = Z.length ∧ ∀ (i : Nat) (x y : Ct), Z[i]? = some x → Y[i]? = some y → y.col.length = x.col.length
theorem SameC.refl (Z : List Ct) : SameC Z Z := ⟨rfl, fun i x y h k => by rw [h] at k; cases k; rfl⟩
theorem SameC.set {Z Y : List Ct} (h : SameC Z Y) (k : Nat) {x y : Ct} (hx : Y[k]? = some x) (e : y.col.length = x.col.length) : SameC Z (Y.set k y) := by
  refine ⟨by simp [h.1], fun i z z' h1 h2 => ?_⟩
  by_cases hik : i = k
  · subst hik
    rw [List.getElem?_set_self ((List.getElem?_eq_some_iff.1 hx).1)] at h2
    cases h2
    rw [e]; exact h.2 i z x h1 hx
  · rw [List.getElem?_set_ne (Ne.symm hik)] at h2
    exact h.2 i z z' h1 h2
def MarkCRet (k0 : Nat) (Z : List Ct) (lo hi : Nat) (w : World) (e : Ending) (w' : World) : Prop := ∃ m : Nat, e = .returned (.int .i64 (m : Int)) ∧ (k0 ≤ m ∧ m ≤ k0 + 3 * Z.length + totC Z) ∧ Aside lo hi w w'
end Go.Proofs.YtgfhjcbmilaegaaGreatDoor
namespace Go.Proofs.YtgfhjcbmilaegaaGreatDoor
open Go.ChangeShapes Go.WideShapes Go.ChangeAt Go.RowKit
set_option linter.unusedVariables false
set_option linter.unusedSimpArgs false
/-- a row of numbers and a code -/
def RowC (L : List Int) (c : Int) (w : World) (e : Ending) (w' : World) : Prop := ∃ v, e = .returned (.tuple #[v, .int .i64 c]) ∧ w'.ownsRow w.heap.size 2 1 v L.length (L.map encI) ∧ Below w.heap.size w w'
theorem rowC_nil {c c' : Int} {L : List Int} {w w' : World} (hL : L = []) (hc : c = c') (hb : Below w.heap.size w w') : RowC L c w (.returned (.tuple #[.slice none 0 0, .int .i64 c'])) w' := by
  subst hL hc; exact ⟨_, rfl, World.ownsRow_nil _ _ _ _, hb⟩
theorem rowC_mk {c c' : Int} {L L' : List Int} {v : Value} {w w' : World} {B : Nat} (hL : L = L') (hc : c = c') (hB : w.heap.size ≤ B) (ho : w'.ownsRow B 2 1 v L'.length (L'.map encI)) (hb : Below w.heap.size w w') : RowC L c w (.returned (.tuple #[v, .int .i64 c'])) w' := by
  subst hL hc; exact ⟨_, rfl, own_low ho hB, hb⟩
/-- a row of numbers alone -/
def RowN (L : List Int) (w : World) (e : Ending) (w' : World) : Prop := ∃ v, e = .returned v ∧ w'.ownsRow w.heap.size 2 1 v L.length (L.map encI) ∧ Below w.heap.size w w'
theorem rowN_mk {L L' : List Int} {v : Value} {w w' : World} {B : Nat} (hL : L = L') (hB : w.heap.size ≤ B) (ho : w'.ownsRow B 2 1 v L'.length (L'.map encI)) (hb : Below w.heap.size w w') : RowN L w (.returned v) w' := by
  subst hL; exact ⟨_, rfl, own_low ho hB, hb⟩
end Go.Proofs.YtgfhjcbmilaegaaGreatDoor
namespace Go.Proofs.YtgfhjcbmilaegaaGreatDoor
open Go.ChangeShapes Go.WideShapes Go.ChangeAt Go.RowKit
set_option linter.unusedVariables false
set_option linter.unusedSimpArgs false
theorem ints_ownE {ty : TypeId} {w : World} {B : Nat} {v : Value} {Z : List Int} (h : w.ownsRow B ty 1 v Z.length (Z.map encI)) (hz : ∀ n ∈ Z, inI n) : IntsAt w v Z := by
  have h0 := h
  rcases h.2 with ⟨h1, h2⟩ | ⟨g, cap, cur, hv, hg, hb, hn, hcap, _, _⟩
  · have hZ : Z = [] := List.eq_nil_of_length_eq_zero h2
    subst hZ
    exact ⟨none, 0, h1, Nat.le_refl 0, hz, Or.inl rfl⟩
  · subst hv
    refine ⟨_, cap, rfl, hn, hz, Or.inr ⟨g, 0, rfl, (h0.lt g rfl).2, fun i hi => ?_⟩⟩
    rw [Nat.zero_add, h0.cellAt i (by omega)]
    simp [encI, List.getElem?_eq_getElem hi]
/-- a row and a code are handed back, the row lies in a block of the type ty -/
def RowCE (ty : TypeId) (V : List Int) (C : Int) (w : World) (e : Ending) (w' : World) : Prop :=
  ∃ v, e = .returned (.tuple #[v, .int .i64 C]) ∧ w'.ownsRow w.heap.size ty 1 v V.length (V.map encI) ∧ Below w.heap.size w w'
theorem rowCE_nil {ty : TypeId} {V : List Int} {C : Int} {w w' : World} {c : Int} (hV : V = []) (hC : C = c) (hb : Below w.heap.size w w') : RowCE ty V C w (.returned (.tuple #[.slice none 0 0, .int .i64 c])) w' := by
  subst hV hC
  exact ⟨_, rfl, World.ownsRow_nil _ _ _ _, hb⟩
theorem rowCE_mk {ty : TypeId} {V V' : List Int} {C c : Int} {v : Value} {w w' : World} (hV : V = V') (hC : C = c) (ho : w'.ownsRow w.heap.size ty 1 v V'.length (V'.map encI)) (hb : Below w.heap.size w w') : RowCE ty V C w (.returned (.tuple #[v, .int .i64 c])) w' := by
  subst hV hC; exact ⟨_, rfl, ho, hb⟩
/-- rows that were made at different calls lie apart -/
theorem apart_lt {v u : Value} {m n : Nat} (h1 : ∀ k, v.ownBlock = some k → k < m) (h2 : ∀ k, u.ownBlock = some k → n ≤ k) (h : m ≤ n) : v.ownBlock = none ∨ v.ownBlock ≠ u.ownBlock := by
  cases e : v.ownBlock with
  | none => exact Or.inl rfl
  | some b => right; intro hh; have := h1 b e; have := h2 b hh.symm; omega
theorem apart_gt {v u : Value} {m n : Nat} (h1 : ∀ k, v.ownBlock = some k → n ≤ k) (h2 : ∀ k, u.ownBlock = some k → k < m) (h : m ≤ n) : v.ownBlock = none ∨ v.ownBlock ≠ u.ownBlock := by
  cases e : v.ownBlock with
  | none => exact Or.inl rfl
  | some b => right; intro hh; have := h1 b e; have := h2 b hh.symm; omega
end Go.Proofs.YtgfhjcbmilaegaaGreatDoor
namespace Go.Proofs.YtgfhjcbmilaegaaGreatDoor
open Go.ChangeShapes Go.WideShapes Go.ChangeAt Go.RowKit Go.Deep
set_option linter.unusedVariables false
set_option linter.unusedSimpArgs false
set_option maxRecDepth 1000000
def gapL (A B : List Int) : Int := gap3 (A.getD 0 0) (A.getD 1 0) (A.getD 2 0) (B.getD 0 0) (B.getD 1 0) (B.getD 2 0)
theorem gapL_mk (a b c a' b' c' : Int) : gapL [a, b, c] [a', b', c'] = gap3 a b c a' b' c' := rfl
/-- a row of three numbers in memory -/
theorem row3 {w : World} {v : Value} {a b c : Int} (h : IntsAt w v [a, b, c]) : ∃ g o cap, v = .slice (some ⟨g, o, none⟩) 3 cap ∧ g < w.heap.size ∧ w.cell? ⟨g, o, none⟩ = some (.int .i64 a) ∧ w.cell? ⟨g, o + 1, none⟩ = some (.int .i64 b) ∧ w.cell? ⟨g, o + 2, none⟩ = some (.int .i64 c) := by
  obtain ⟨p, cap, rfl, hcap, _, hread⟩ := h
  rcases hread with h | ⟨g, o, rfl, hg, hcl⟩
  · cases h
  · exact ⟨g, o, cap, rfl, hg, hcl 0 (by simp), hcl 1 (by simp), hcl 2 (by simp)⟩
theorem run_arrayAt3 {p : Option Addr} {len cap : Nat} (h : 3 ≤ len) (w : World) : Sem.run Tryz.prog (Instr.arrayAt 52 (.slice p len cap)) w = .ok (.pointer p) w := by
  unfold Instr.arrayAt
  go_simp
def gapV (A B : List Int) : Int := pick (colB A && colB B) (gapL A B)
def gapC (A B : List Int) : Int := code (colB A && colB B) 1
set_option maxHeartbeats 1600000 in
theorem specColourGap_any (v : Value) (A : List Int) (v' : Value) (B : List Int) (w : World) (hA : A.length ≤ 1048576) (h1 : IntsAt w v A) (hB : B.length ≤ 1048576) (h2 : IntsAt w v' B) : Calls Tryz.prog 19 #[v, v'] w fun e w' => e = .returned (.tuple #[.int .i64 (gapV A B), .int .i64 (gapC A B)]) ∧ Below w.heap.size w w' := by
  have c1 := fun W (h : IntsAt W v A) => l13Colour_any v A W (by unfold maxLen; omega) h
  have c2 := fun W (h : IntsAt W v' B) => l13Colour_any v' B W (by unfold maxLen; omega) h
  have d1 := c1 w h1
  have d2 := c2 w h2
  have hV : Hid (gapV A B = pick (colB A && colB B) (gapL A B)) := Lib.hid rfl
  have hC : Hid (gapC A B = code (colB A && colB B) 1) := Lib.hid rfl
  clear c1 c2
  cases q1 : colB A
  · rw [q1] at d1 hV hC
    have d1' := Lib.hid d1
    clear d1 d2
    go_enter Tryz.func19, Tryz.ntmps19
    go_wp2_with (go_at_call 41; (with_reducible refine d1'.out.mono ?_); rintro e w1 ⟨rfl, rfl⟩)
    go_ret2
    exact ⟨ret_int2 hV.out.symm hC.out.symm, Below.refl _ _⟩
  · cases q2 : colB B
    · rw [q1] at d1 hV hC
      rw [q2] at d2 hV hC
      have d1' := Lib.hid d1
      have d2' := Lib.hid d2
      clear d1 d2
      go_enter Tryz.func19, Tryz.ntmps19
      go_wp2_with (first | (go_at_call 41; (with_reducible refine d1'.out.mono ?_); rintro e w1 ⟨rfl, rfl⟩) | (go_at_call 41; (with_reducible refine d2'.out.mono ?_); rintro e w1 ⟨rfl, rfl⟩))
      go_ret2
      exact ⟨ret_int2 hV.out.symm hC.out.symm, Below.refl _ _⟩
    · rw [q1] at d1 hV hC
      rw [q2] at d2 hV hC
      obtain ⟨a, b, c, rfl, ba, bb, bc⟩ := colB_iff q1
      obtain ⟨a', b', c', rfl, ba', bb', bc'⟩ := colB_iff q2
      have d3 := Lib.hid (l13Gap_any v v' a b c a' b' c' ba bb bc ba' bb' bc' w h1 h2)
      have d1' := Lib.hid d1
      have d2' := Lib.hid d2
      clear d1 d2 h1 h2
      go_enter Tryz.func19, Tryz.ntmps19
      go_wp2_with (first | (go_at_call 41; (with_reducible refine d1'.out.mono ?_); rintro e w1 ⟨rfl, rfl⟩) | (go_at_call 41; (with_reducible refine d2'.out.mono ?_); rintro e w1 ⟨rfl, rfl⟩) | (go_at_call 42; (with_reducible refine d3.out.mono ?_); rintro e w1 ⟨rfl, b1⟩))
      go_ret2
      exact ⟨ret_int2 hV.out.symm hC.out.symm, b1.below⟩
set_option maxHeartbeats 1600000 in
theorem implColourGap_any (v : Value) (A : List Int) (v' : Value) (B : List Int) (w : World) (hA : A.length ≤ 1048576) (h1 : IntsAt w v A) (hB : B.length ≤ 1048576) (h2 : IntsAt w v' B) : Calls Tryz.prog 10 #[v, v'] w fun e w' => e = .returned (.tuple #[.int .i64 (gapV A B), .int .i64 (gapC A B)]) ∧ Below w.heap.size w w' := by
  have d1 := isColour_any v A w (by unfold maxLen; omega) h1
  have d2 := fun W (hb : Below w.heap.size w W) => isColour_any v' B W (by unfold maxLen; omega) (h2.below hb)
  have hV : Hid (gapV A B = pick (colB A && colB B) (gapL A B)) := Lib.hid rfl
  have hC : Hid (gapC A B = code (colB A && colB B) 1) := Lib.hid rfl
  cases q1 : colB A
  · rw [q1] at d1 hV hC
    have d1' := Lib.hid d1
    clear d1 d2
    go_enter Tryz.func10, Tryz.ntmps10
    go_wp2_with (go_at_call 24; (with_reducible refine d1'.out.mono ?_); rintro e w1 ⟨rfl, b1⟩)
    go_ret2
    exact ⟨ret_int2 hV.out.symm hC.out.symm, b1⟩
  · cases q2 : colB B
    · rw [q1] at d1 hV hC
      rw [q2] at d2 hV hC
      have d1' := Lib.hid d1
      have d2' := Lib.hid d2
      clear d1 d2
      go_enter Tryz.func10, Tryz.ntmps10
      go_wp2_with (first | (go_at_call 24; (with_reducible refine d1'.out.mono ?_); rintro e w1 ⟨rfl, b1⟩) | (go_at_call 24; (with_reducible refine (d2'.out _ b1).mono ?_); rintro e w2 ⟨rfl, b2⟩))
      go_ret2
      exact ⟨ret_int2 hV.out.symm hC.out.symm, below2 b1 b2⟩
    · rw [q1] at d1 hV hC
      rw [q2] at d2 hV hC
      obtain ⟨a, b, c, rfl, ba, bb, bc⟩ := colB_iff q1
      obtain ⟨a', b', c', rfl, ba', bb', bc'⟩ := colB_iff q2
      obtain ⟨g, o, cap, rfl, hg, c0, c1, c2⟩ := row3 h1
      obtain ⟨g', o', cap', rfl, hg', e0, e1, e2⟩ := row3 h2
      have d3 := Lib.hid (fun W => gapTo_any a b c a' b' c' ba bb bc ba' bb' bc' W)
      have d1' := Lib.hid d1
      have d2' := Lib.hid d2
      clear d1 d2 h1 h2
      go_enter Tryz.func10, Tryz.ntmps10
      go_upto_region 3 with (first | (go_at_call 24; (with_reducible refine d1'.out.mono ?_); rintro e w1 ⟨rfl, b1⟩) | (go_at_call 24; (with_reducible refine (d2'.out _ b1).mono ?_); rintro e w2 ⟨rfl, b2⟩))
      have b12 := below2 b1 b2
      have c0' := (bcell b12 _ _ hg).trans c0
      have c1' := (bcell b12 _ _ hg).trans c1
      have c2' := (bcell b12 _ _ hg).trans c2
      have e0' := (bcell b12 _ _ hg').trans e0
      have e1' := (bcell b12 _ _ hg').trans e1
      have e2' := (bcell b12 _ _ hg').trans e2
      clear c0 c1 c2 e0 e1 e2
      have hg1 := Nat.lt_of_lt_of_le hg b12.size
      have hg2 := Nat.lt_of_lt_of_le hg' b12.size
      have keepH : Hid (∀ W1 W2, (((W1.cell? ⟨g, o, none⟩ = some (.int .i64 a) ∧ W1.cell? ⟨g, o + 1, none⟩ = some (.int .i64 b) ∧ W1.cell? ⟨g, o + 2, none⟩ = some (.int .i64 c)) ∧ (W1.cell? ⟨g', o', none⟩ = some (.int .i64 a') ∧ W1.cell? ⟨g', o' + 1, none⟩ = some (.int .i64 b') ∧ W1.cell? ⟨g', o' + 2, none⟩ = some (.int .i64 c'))) ∧ Below w2.heap.size w2 W1) → Below W1.heap.size W1 W2 → (((W2.cell? ⟨g, o, none⟩ = some (.int .i64 a) ∧ W2.cell? ⟨g, o + 1, none⟩ = some (.int .i64 b) ∧ W2.cell? ⟨g, o + 2, none⟩ = some (.int .i64 c)) ∧ (W2.cell? ⟨g', o', none⟩ = some (.int .i64 a') ∧ W2.cell? ⟨g', o' + 1, none⟩ = some (.int .i64 b') ∧ W2.cell? ⟨g', o' + 2, none⟩ = some (.int .i64 c'))) ∧ Below w2.heap.size w2 W2)) := Lib.hid (fun W1 W2 h1 h2 => by
        obtain ⟨⟨⟨p0, p1, p2⟩, ⟨r0, r1, r2⟩⟩, hb⟩ := h1
        have z1 := Nat.lt_of_lt_of_le hg1 hb.size
        have z2 := Nat.lt_of_lt_of_le hg2 hb.size
        exact ⟨⟨⟨(bcell h2 _ _ z1).trans p0, (bcell h2 _ _ z1).trans p1, (bcell h2 _ _ z1).trans p2⟩, ⟨(bcell h2 _ _ z2).trans r0, (bcell h2 _ _ z2).trans r1, (bcell h2 _ _ z2).trans r2⟩⟩, hb.trans (h2.mono hb.size)⟩)
      have hS : (((w2.cell? ⟨g, o, none⟩ = some (.int .i64 a) ∧ w2.cell? ⟨g, o + 1, none⟩ = some (.int .i64 b) ∧ w2.cell? ⟨g, o + 2, none⟩ = some (.int .i64 c)) ∧ (w2.cell? ⟨g', o', none⟩ = some (.int .i64 a') ∧ w2.cell? ⟨g', o' + 1, none⟩ = some (.int .i64 b') ∧ w2.cell? ⟨g', o' + 2, none⟩ = some (.int .i64 c'))) ∧ Below w2.heap.size w2 w2) := ⟨⟨⟨c0', c1', c2'⟩, ⟨e0', e1', e2'⟩⟩, Below.refl _ _⟩
      clear c0' c1' c2' e0' e1' e2'
      go_region_held3 (fun w' => (((w'.cell? ⟨g, o, none⟩ = some (.int .i64 a) ∧ w'.cell? ⟨g, o + 1, none⟩ = some (.int .i64 b) ∧ w'.cell? ⟨g, o + 2, none⟩ = some (.int .i64 c)) ∧ (w'.cell? ⟨g', o', none⟩ = some (.int .i64 a') ∧ w'.cell? ⟨g', o' + 1, none⟩ = some (.int .i64 b') ∧ w'.cell? ⟨g', o' + 2, none⟩ = some (.int .i64 c'))) ∧ Below w2.heap.size w2 w'))
        (first | exact ⟨hS.1, belowN hS.2 1⟩ | exact keepH.out _ _ (by assumption) (by assumption) | assumption)
        (first | (rw [run_arrayAt3 (by decide)]; go_simp) | (go_at_call 27; (with_reducible refine (d3.out _).mono ?_); rintro e w' ⟨rfl, hbel⟩))
      all_goals rename_i hHeld
      all_goals go_wp2
      all_goals go_ret2
      all_goals exact ⟨ret_int2 hV.out.symm hC.out.symm, below2 b12 hHeld.2⟩
end Go.Proofs.YtgfhjcbmilaegaaGreatDoor
namespace Go.Proofs.YtgfhjcbmilaegaaGreatDoor
open Go.ChangeShapes Go.WideShapes Go.ChangeAt Go.RowKit Go.Deep
set_option linter.unusedVariables false
set_option linter.unusedSimpArgs false
set_option maxRecDepth 1000000
/-- an order of n coats -/
def ordC (n : Nat) (O : List Int) : Bool := decide (O.length ≤ 10) && allI O 0 ((n : Int) - 1)
theorem ordC_len {n : Nat} {O : List Int} (h : ordC n O = true) : O.length ≤ 10 := of_decide_eq_true (Bool.and_eq_true_iff.1 h).1
theorem ordC_at {n : Nat} {O : List Int} (h : ordC n O = true) {k : Nat} (hk : k < O.length) : 0 ≤ O.getD k 0 ∧ (O.getD k 0).toNat < n ∧ O.getD k 0 = ((O.getD k 0).toNat : Int) := by
  have := allI_iff.1 (Bool.and_eq_true_iff.1 h).2 (O.getD k 0) (by rw [getD_of _ hk]; exact List.getElem_mem hk)
  omega
theorem isOrder_any (v : Value) (O : List Int) (n : Nat) (w : World) (hn : n ≤ 1048576) (hO : O.length ≤ 1048576) (hv : IntsAt w v O) : Calls Tryz.prog 25 #[v, .int .i64 (n : Int)] w fun e w' => e = .returned (.bool (ordC n O)) ∧ Below w.heap.size w w' := by
  have cA := Lib.hid (allWithin_any v O 0 ((n : Int) - 1) w (by unfold maxLen; omega) hv)
  have hx : Hid (ordC n O = (decide (O.length ≤ 10) && allI O 0 ((n : Int) - 1))) := Lib.hid rfl
  have e1 : IntKind.i64.wrap ((n : Int) - 1) = (n : Int) - 1 := IntWalk.i64_in _ (by omega)
  obtain ⟨q, hq⟩ : ∃ q, q = allI O 0 ((n : Int) - 1) := ⟨_, rfl⟩
  rw [← hq] at cA hx
  obtain ⟨a0, cap, rfl, _, _, _⟩ := hv
  clear hq
  by_cases h10 : O.length ≤ 10
  · cases q
    all_goals
      go_enter Tryz.func25, Tryz.ntmps25
      go_wp2_with (go_at_call 49; (with_reducible refine cA.out.mono ?_); rintro e w2 ⟨rfl, b2⟩)
      go_ret
      exact ⟨ret_bool (by rw [hx.out]; simp [h10]), b2⟩
  · go_enter Tryz.func25, Tryz.ntmps25
    go_wp2
    go_ret
    exact ⟨ret_bool (by rw [hx.out]; simp [h10]), Below.refl _ _⟩
set_option maxHeartbeats 1600000 in
theorem l13Order_any (vz : Value) (pz : Option Addr) (n cz : Nat) (hvz : vz = .slice pz n cz) (v : Value) (O : List Int) (w : World) (hn : n ≤ 1048576) (hO : O.length ≤ 1048576) (hv : IntsAt w v O) : Calls Tryz.prog 44 #[vz, v] w fun e w' => e = .returned (.bool (ordC n O)) ∧ w = w' := by
  subst hvz
  have hx : Hid (ordC n O = (decide (O.length ≤ 10) && allK (wAt O 0 ((n : Int) - 1)) O.length)) := Lib.hid rfl
  have e1 : IntKind.i64.wrap ((n : Int) - 1) = (n : Int) - 1 := IntWalk.i64_in _ (by omega)
  obtain ⟨a0, cap, rfl, hcap, hids, hread⟩ := hv
  have hread' := Lib.hid hread
  clear hread hids
  go_enter Tryz.func44, Tryz.ntmps44
  go_wp2
  go_loopw [5] (fun i wr => ∃ k : Nat, k ≤ O.length ∧ i = .int .i64 k ∧ Hid (allK (wAt O 0 ((n : Int) - 1)) k = true) ∧ wr = w) (fun i _ => O.length - (intOf i).toNat)
  case atStart => exact ⟨0, by omega, rfl, Lib.hid rfl, rfl⟩
  case round =>
    obtain ⟨k, hk, rfl, hall, rfl⟩ := hrel
    by_cases hlt : k < O.length
    · rcases hread'.out with h | ⟨g, o, rfl, hg, hc⟩
      · subst h; simp at hlt
      have hltI : (k : Int) < (O.length : Int) := by omega
      have c0 := rowcell (Below.refl _ _) hg hc hlt
      have hst : Hid (wAt O 0 ((n : Int) - 1) k = inB (O.getD k 0) 0 ((n : Int) - 1)) := Lib.hid rfl
      obtain ⟨x, hx'⟩ : ∃ x, x = O.getD k 0 := ⟨_, rfl⟩
      rw [← hx'] at c0 hst
      have cT := fun W => l00In_any x 0 ((n : Int) - 1) W
      clear hx' hc
      cases hcmp : inB x 0 ((n : Int) - 1)
      · rw [hcmp] at cT hst
        have hno : Hid (ordC n O = false) := Lib.hid (by rw [hx.out, allK_no hst.out hlt, Bool.and_false])
        go_wp2_with (go_at_call 59; (with_reducible refine (cT _).mono ?_); rintro e w2 ⟨rfl, rfl⟩)
        go_ret
        exact ⟨ret_bool hno.out.symm, rfl⟩
      · rw [hcmp] at cT hst
        have hall2 : Hid (allK (wAt O 0 ((n : Int) - 1)) (k + 1) = true) := Lib.hid (allK_yes hall.out hst.out)
        go_wp2_with (go_at_call 59; (with_reducible refine (cT _).mono ?_); rintro e w2 ⟨rfl, rfl⟩)
        go_roundw
        case rel => exact ⟨k + 1, by omega, by go_num, hall2, trivial⟩
        case measure => simp [intOf]; omega
    · have hkl : k = O.length := by omega
      have hfin : Hid (ordC n O = decide (O.length ≤ 10)) := Lib.hid (by have h9 := hall.out; rw [hkl] at h9; rw [hx.out, h9, Bool.and_true])
      clear hkl
      by_cases h10 : O.length ≤ 10
      all_goals
        go_wp2
        go_ret
        exact ⟨ret_bool (by rw [hfin.out]; first | (simp [h10]; done) | (simp; omega) | (simp [h10]; omega)), rfl⟩
theorem ctB_bd {x : Ct} (h : ctB x = true) : (0 ≤ x.days ∧ x.days ≤ 365) ∧ (0 ≤ x.cover ∧ x.cover ≤ 1000) ∧ colB x.col = true := ct_bd (s := x.id) (a := x.days) (b := x.cover) (L := x.col) h
/-- sums of the first k values -/
def sumK (f : Nat → Int) : Nat → Int
  | 0 => 0
  | k + 1 => sumK f k + f k
def dayF (Z : List Ct) (O : List Int) (i : Nat) : Int := (Z.getD (O.getD i 0).toNat ct0).days
def dayV (Z : List Ct) (O : List Int) : Int := if ctsB Z = true then pick (ordC Z.length O) (sumK (dayF Z O) O.length) else 0
def dayC (Z : List Ct) (O : List Int) : Int := if ctsB Z = true then code (ordC Z.length O) 7 else 1
theorem cts_getD {Z : List Ct} {k : Nat} (h : k < Z.length) : Z.getD k ct0 = Z[k] := by rw [List.getD_eq_getElem?_getD, List.getElem?_eq_getElem h]; rfl
theorem dayS_bd {Z : List Ct} {O : List Int} (hz : ctsB Z = true) (ho : ordC Z.length O = true) : ∀ k, k ≤ O.length → 0 ≤ sumK (dayF Z O) k ∧ sumK (dayF Z O) k ≤ 365 * k
  | 0, _ => by unfold sumK; omega
  | k + 1, hk => by
    have h1 := dayS_bd hz ho k (by omega)
    have h2 := ordC_at ho (k := k) (by omega)
    have h3 := (ctB_bd (cts_one hz h2.2.1)).1
    have h4 : dayF Z O k = Z[(O.getD k 0).toNat].days := by unfold dayF; rw [cts_getD h2.2.1]
    unfold sumK
    rw [h4]
    omega
/-- the cells of the coat that an order names -/
theorem ordCell {w wr : World} {g o : Nat} {Z : List Ct} {O : List Int} (hb : Below w.heap.size w wr) (hg : g < w.heap.size) (hc : ∀ i (hi : i < Z.length), ∃ u, w.rangeAt g (o + i * 4) (Z[i].cells u) ∧ IntsAt w u Z[i].col) (ho : ordC Z.length O = true) {k : Nat} (hk : k < O.length) : ∃ (m : Nat) (u : Value), O.getD k 0 = (m : Int) ∧ m < Z.length ∧ CtAt wr g (o + m * 4) (Z.getD m ct0) u ∧ Z.getD (O.getD k 0).toNat ct0 = Z.getD m ct0 := by
  have h2 := ordC_at ho hk
  obtain ⟨u, hu, hui⟩ := hc _ h2.2.1
  exact ⟨(O.getD k 0).toNat, u, h2.2.2, h2.2.1, by rw [cts_getD h2.2.1]; exact ctAt_of (range_below hu hg hb) (hui.below hb), rfl⟩
set_option maxHeartbeats 1600000 in
theorem implDryingDays_any (v : Value) (Z : List Ct) (v' : Value) (O : List Int) (w : World) (hz : Z.length ≤ 1048576) (hv : CtsAt w v Z) (ho : O.length ≤ 1048576) (hv' : IntsAt w v' O) : Calls Tryz.prog 9 #[v, v'] w fun e w' => e = .returned (.tuple #[.int .i64 (dayV Z O), .int .i64 (dayC Z O)]) ∧ Below w.heap.size w w' := by
  have cV := implValidCoats_any v Z w hz hv
  have hV : Hid (dayV Z O = if ctsB Z = true then pick (ordC Z.length O) (sumK (dayF Z O) O.length) else 0) := Lib.hid rfl
  have hC : Hid (dayC Z O = if ctsB Z = true then code (ordC Z.length O) 7 else 1) := Lib.hid rfl
  have hv0 := hv
  obtain ⟨p9, c9, hv9, _, _, hread9⟩ := hv0
  have cO := fun W (hb : Below w.heap.size w W) => isOrder_any v' O Z.length W hz ho (hv'.below hb)
  cases q1 : ctsB Z
  · rw [q1] at cV hV hC
    replace cV := Lib.hid cV
    subst hv9
    clear cO hread9 hv
    go_enter Tryz.func9, Tryz.ntmps9
    go_wp2_with (go_at_call 11; (with_reducible refine cV.out.mono ?_); rintro e w1 ⟨rfl, b1⟩)
    go_ret2
    exact ⟨ret_int2 hV.out.symm hC.out.symm, b1⟩
  cases q2 : ordC Z.length O
  · rw [q1] at cV hV hC
    rw [q2] at cO hV hC
    replace cV := Lib.hid cV
    replace cO := Lib.hid cO
    subst hv9
    clear hread9 hv
    go_enter Tryz.func9, Tryz.ntmps9
    go_wp2_with (first | (go_at_call 11; (with_reducible refine cV.out.mono ?_); rintro e w1 ⟨rfl, b1⟩) | (go_at_call 25; (with_reducible refine (cO.out _ b1).mono ?_); rintro e w2 ⟨rfl, b2⟩))
    go_ret2
    exact ⟨ret_int2 hV.out.symm hC.out.symm, (below2 b1 b2)⟩
  have hbd := Lib.hid (fun k hk => dayS_bd q1 q2 k hk)
  have hoB := Lib.hid q2
  have hl10 := ordC_len q2
  rw [q1] at cV hV hC
  rw [q2] at cO hV hC
  replace cV := Lib.hid cV
  replace cO := Lib.hid cO
  subst hv9
  have hr9 := Lib.hid hread9
  obtain ⟨p8, c8, rfl, _, _, hread8⟩ := hv'
  have hr8 := Lib.hid hread8
  clear hread9 hv q1 q2 hread8
  go_enter Tryz.func9, Tryz.ntmps9
  go_wp2_with (first | (go_at_call 11; (with_reducible refine cV.out.mono ?_); rintro e w1 ⟨rfl, b1⟩) | (go_at_call 25; (with_reducible refine (cO.out _ b1).mono ?_); rintro e w2 ⟨rfl, b2⟩))
  have hB2 := Lib.hid (below2 b1 b2)
  go_loopw [6, 21] (fun s i wr => ∃ (k : Nat) (m : Int), k ≤ O.length ∧ i = .int .i64 k ∧ s = .int .i64 m ∧ Hid (m = sumK (dayF Z O) k) ∧ 0 ≤ m ∧ m ≤ 3650 ∧ Hid (Below w.heap.size w wr)) (fun _ i _ => O.length - (intOf i).toNat)
  case atStart => exact ⟨0, 0, by omega, rfl, rfl, Lib.hid rfl, by omega, by omega, hB2⟩
  case round =>
    obtain ⟨k, m, hk, rfl, rfl, hm, hm0, hm1, hb⟩ := hrel
    by_cases hlt : k < O.length
    · rcases hr8.out with h | ⟨g8, o8, rfl, hg8, hc8⟩
      · subst h; simp at hlt
      have c0 := rowcell hb.out hg8 hc8 hlt
      rcases hr9.out with h | ⟨g, o, rfl, hg, hc⟩
      · have := (ordC_at hoB.out hlt).2.1; rw [h] at this; simp at this
      obtain ⟨j, u, hj, hjl, hat, hgd⟩ := ordCell hb.out hg hc hoB.out hlt
      have hnew : Hid (m + (Z.getD j ct0).days = sumK (dayF Z O) (k + 1)) := Lib.hid (by unfold sumK; rw [← hm.out]; unfold dayF; rw [hgd])
      have hbn := hbd.out (k + 1) (by omega)
      rw [← hnew.out] at hbn
      rw [hj] at c0
      have c1 := hat.1.2.1
      obtain ⟨d, hd⟩ : ∃ d, d = (Z.getD j ct0).days := ⟨_, rfl⟩
      rw [← hd] at c1 hnew hbn
      have hjI : (j : Int) < (Z.length : Int) := by omega
      have hbn2 : 0 ≤ m + d ∧ m + d ≤ 3650 := by omega
      clear hd hat hgd hj hc hc8 hbn
      go_wp2
      go_roundw
      case rel => exact ⟨k + 1, m + d, by omega, by go_num, rfl, hnew, by omega, by omega, hb⟩
      case measure => simp [intOf]; omega
    · obtain rfl : k = O.length := by omega
      have hfin : Hid (m = dayV Z O) := Lib.hid (by rw [hV.out]; simp [pick]; exact hm.out)
      go_wp2
      go_ret2
      exact ⟨ret_int2 hfin.out hC.out.symm, hb.out⟩
end Go.Proofs.YtgfhjcbmilaegaaGreatDoor
