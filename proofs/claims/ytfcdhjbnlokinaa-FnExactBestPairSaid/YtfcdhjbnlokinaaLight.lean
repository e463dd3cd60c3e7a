/-
  The lightest plank for a piece: what both sides compute, and the program's contract.
-/
import Derived.Test.YtfcdhjbnlokinaaPlanks5
import Derived.Test.YtfcdhjbnlokinaaPlank3
namespace Go.Proofs.Ytfcdhjbnlokinaa
open Go.ChangeShapes Go.WideShapes Go.ChangeAt Go.RowKit Go.Deep
set_option linter.unusedVariables false
set_option linter.unusedSimpArgs false
def atZ (Z : List Plk) (k : Nat) : Plk := Z.getD k plk0
theorem atZ_get {Z : List Plk} {k : Nat} (h : k < Z.length) : atZ Z k = Z[k] := getD_at' h
theorem valid_at {Z : List Plk} (h : plksB Z = true) {k : Nat} (hk : k < Z.length) : plkB Z[k] = true := by
  cases hv : plkB Z[k] with
  | true => rfl
  | false => rw [plksB_no (step_bad hk rfl hv) hk] at h; cases h
/-- the program's state: the lightest so far and its density -/
def ltS (Z : List Plk) (l v u : Int) : Nat → Int × Int
  | 0 => (0, 9223372036854775807)
  | k + 1 => if fitsB (atZ Z k) l v u = true ∧ denV (atZ Z k) < (ltS Z l v u k).2 then ((k : Int), denV (atZ Z k)) else ltS Z l v u k
/-- the model's state: the lightest so far, or -1 -/
def ltP (Z : List Plk) (l v u : Int) : Nat → Int
  | 0 => -1
  | k + 1 => if fitsB (atZ Z k) l v u = true ∧ (ltP Z l v u k < 0 ∨ denV (atZ Z k) < denV (atZ Z (ltP Z l v u k).toNat)) then (k : Int) else ltP Z l v u k
theorem den_small {Z : List Plk} (h : plksB Z = true) {k : Nat} (hk : k < Z.length) : 0 ≤ denV (atZ Z k) ∧ denV (atZ Z k) ≤ 1000000000000 := by
  have hv := valid_at h hk
  rw [atZ_get hk]
  exact den_bd (s := Z[k].id) (a := Z[k].len) (b := Z[k].wid) (c := Z[k].thk) (d := Z[k].mas) (f := Z[k].rin) hv
theorem lt_link {Z : List Plk} (h : plksB Z = true) (l v u : Int) : ∀ k, k ≤ Z.length → (ltP Z l v u k < 0 ∧ ltS Z l v u k = (0, 9223372036854775807)) ∨ (0 ≤ ltP Z l v u k ∧ ltP Z l v u k < k ∧ ltS Z l v u k = (ltP Z l v u k, denV (atZ Z (ltP Z l v u k).toNat)))
  | 0, _ => Or.inl ⟨by unfold ltP; omega, rfl⟩
  | k + 1, hk => by
    have ih := lt_link h l v u k (by omega)
    have hd := den_small h (k := k) (by omega)
    unfold ltP ltS
    by_cases hf : fitsB (atZ Z k) l v u = true
    · rcases ih with ⟨h1, h2⟩ | ⟨h1, h2, h3⟩
      · right
        rw [if_pos ⟨hf, Or.inl h1⟩, if_pos ⟨hf, by rw [h2]; show denV (atZ Z k) < 9223372036854775807; omega⟩]
        exact ⟨by omega, by omega, by simp⟩
      · by_cases hl : denV (atZ Z k) < denV (atZ Z (ltP Z l v u k).toNat)
        · right
          rw [if_pos ⟨hf, Or.inr hl⟩, if_pos ⟨hf, by rw [h3]; exact hl⟩]
          exact ⟨by omega, by omega, by simp⟩
        · right
          rw [if_neg (by rintro ⟨_, h4 | h4⟩; omega; exact hl h4), if_neg (by rintro ⟨_, h4⟩; rw [h3] at h4; exact hl h4)]
          exact ⟨h1, by omega, h3⟩
    · rw [if_neg (fun h => hf h.1), if_neg (fun h => hf h.1)]
      rcases ih with ⟨h1, h2⟩ | ⟨h1, h2, h3⟩
      · exact Or.inl ⟨h1, h2⟩
      · exact Or.inr ⟨h1, by omega, h3⟩
def piB (l v u : Int) : Bool := inB l 1 2000 && inB v 1 2000 && inB u 1 2000
def lightN (Z : List Plk) (l v u : Int) : Int := if plksB Z = true ∧ piB l v u = true ∧ 0 ≤ ltP Z l v u Z.length then ltP Z l v u Z.length else 0
def lightC (Z : List Plk) (l v u : Int) : Int := if plksB Z = true then (if piB l v u = true then (if 0 ≤ ltP Z l v u Z.length then 0 else 3) else 2) else 1
theorem light_inv {Z : List Plk} {l v u : Int} (h : plksB Z = false) : lightN Z l v u = 0 ∧ lightC Z l v u = 1 := by unfold lightN lightC; rw [h]; exact ⟨rfl, rfl⟩
theorem light_rng {Z : List Plk} {l v u : Int} (h : plksB Z = true) (hp : piB l v u = false) : lightN Z l v u = 0 ∧ lightC Z l v u = 2 := by unfold lightN lightC; rw [h, hp]; exact ⟨rfl, rfl⟩
theorem light_no {Z : List Plk} {l v u : Int} (h : plksB Z = true) (hp : piB l v u = true) (hn : ltP Z l v u Z.length < 0) : lightN Z l v u = 0 ∧ lightC Z l v u = 3 := by
  unfold lightN lightC; rw [h, hp, if_neg (by omega), if_pos rfl, if_pos rfl, if_neg (by omega)]; exact ⟨rfl, rfl⟩
theorem light_yes {Z : List Plk} {l v u : Int} (h : plksB Z = true) (hp : piB l v u = true) (hn : 0 ≤ ltP Z l v u Z.length) : lightN Z l v u = ltP Z l v u Z.length ∧ lightC Z l v u = 0 := by
  unfold lightN lightC; rw [h, hp, if_pos ⟨rfl, rfl, hn⟩, if_pos rfl, if_pos rfl, if_pos hn]; exact ⟨rfl, rfl⟩
/-- the piece's cells -/
def PceAt (w : World) (g : Nat) (l v u : Int) : Prop := w.cell? ⟨g, 0, none⟩ = some (.int .i64 l) ∧ w.cell? ⟨g, 1, none⟩ = some (.int .i64 v) ∧ w.cell? ⟨g, 2, none⟩ = some (.int .i64 u)
theorem PceAt.below {w w' : World} {g : Nat} {l v u : Int} (h : PceAt w g l v u) (hg : g < w.heap.size) (hb : Below w.heap.size w w') : PceAt w' g l v u :=
  ⟨(hb.cell (p := ⟨g, 0, none⟩) hg).trans h.1, (hb.cell (p := ⟨g, 1, none⟩) hg).trans h.2.1, (hb.cell (p := ⟨g, 2, none⟩) hg).trans h.2.2⟩
theorem plk_facts {w : World} {g : Nat} {s : ByteArray} {a b c d f : Int} (h : PlkAt w g 0 ⟨s, a, b, c, d, f⟩) : w.cell? ⟨g, 0, none⟩ = some (.string s) ∧ w.cell? ⟨g, 1, none⟩ = some (.int .i64 a) ∧ w.cell? ⟨g, 2, none⟩ = some (.int .i64 b) ∧ w.cell? ⟨g, 3, none⟩ = some (.int .i64 c) ∧ w.cell? ⟨g, 4, none⟩ = some (.int .i64 d) ∧ w.cell? ⟨g, 5, none⟩ = some (.int .i64 f) := h
theorem ltS_bd {Z : List Plk} (h : plksB Z = true) (l v u : Int) {k : Nat} (hk : k ≤ Z.length) : 0 ≤ (ltS Z l v u k).1 ∧ (ltS Z l v u k).1 ≤ Z.length ∧ 0 ≤ (ltS Z l v u k).2 ∧ (ltS Z l v u k).2 ≤ 9223372036854775807 := by
  rcases lt_link h l v u k hk with ⟨_, e⟩ | ⟨h1, h2, e⟩
  · rw [e]; exact ⟨Int.le_refl 0, by show (0 : Int) ≤ _; omega, by decide, by decide⟩
  · rw [e]
    have hd := den_small h (k := (ltP Z l v u k).toNat) (by omega)
    exact ⟨h1, by show ltP Z l v u k ≤ _; omega, hd.1, by show denV _ ≤ _; omega⟩
end Go.Proofs.Ytfcdhjbnlokinaa
