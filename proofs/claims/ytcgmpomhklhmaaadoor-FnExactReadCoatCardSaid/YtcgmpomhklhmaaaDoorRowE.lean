/-
  Rows of numbers in blocks of any type (a slice of an array): read, marked, held.
-/
import Derived.Test.YtcgmpomhklhmaaaDoorIntRow
import Derived.Test.YtcgmpomhklhmaaaDoorRowC
import Derived.ChangeAgain
namespace Go.Proofs.YtcgmpomhklhmaaaDoor
open Go.ChangeShapes Go.WideShapes Go.ChangeAt Go.RowKit
set_option linter.unusedVariables false
set_option linter.unusedSimpArgs false
theorem ints_ownE {ty : TypeId} {w : World} {B : Nat} {v : Value} {Z : List Int} (h : w.ownsRow B ty 1 v Z.length (Z.map encI)) (hz : ∀ n ∈ Z, inI n) : IntsAt w v Z := by
  have h0 := h
  rcases h.2 with ⟨h1, h2⟩ | ⟨g, cap, cur, hv, hg, hb, hn, hcap, _, _⟩
  · have hZ : Z = [] := List.eq_nil_of_length_eq_zero h2
    subst hZ
    exact ⟨none, 0, h1, Nat.le_refl 0, hz, Or.inl rfl⟩
  · subst hv
    refine ⟨_, cap, rfl, hn, hz, Or.inr ⟨g, 0, rfl, (h0.lt g rfl).2, fun i hi => ?_⟩⟩
    rw [Nat.zero_add, h0.cellAt i (by omega)]
    simp [encI, List.getElem?_eq_getElem hi]
set_option maxHeartbeats 1600000 in
theorem markInt64S_rowE {ty : TypeId} (v : Value) (k0 B : Nat) (Z : List Int) (w : World) (hn : Z.length ≤ 1048577) (hk0 : 0 < k0) (hk1 : k0 ≤ 1000000000000)
    (hown : w.ownsRow B ty 1 v Z.length (Z.map encI)) :
    Calls Tryd.prog 27 #[v, .int .i64 k0] w fun e w' =>
      e = .returned (.int .i64 ((k0 + Z.length : Nat) : Int)) ∧ w'.ownsRow B ty 1 v Z.length (((List.range Z.length).map fun i => ((k0 + i : Nat) : Int)).map encI) ∧ w.grownBy w' v.ownBlock := by
  have h0 := hown
  rcases hown.2 with ⟨rfl, hz⟩ | ⟨g, cap, cur, rfl, _⟩
  · have hZ : Z = [] := List.eq_nil_of_length_eq_zero hz
    subst hZ
    clear h0 hown hz
    go_enter Tryd.func27, Tryd.ntmps27
    go_wp2
    refine wp_loop_rounds 1 ?_
    rw [rounds_succ]
    go_wp2
    go_ret
    exact ⟨rfl, World.ownsRow_nil _ _ _ _, World.grownBy.refl _ _⟩
  · obtain ⟨n, hnn⟩ : ∃ n, n = Z.length := ⟨_, rfl⟩
    have hall := markI_all Z k0
    rw [← hnn] at hn h0 hall ⊢
    have hall' := Lib.hid hall
    have hnn' := Lib.hid hnn
    clear hown hall hnn
    go_enter Tryd.func27, Tryd.ntmps27
    go_wp2
    go_loopw [1, 5] (fun q i wr => ∃ j m : Nat, j ≤ n ∧ i = .int .i64 j ∧ q = .int .i64 m ∧ 0 < m ∧ m ≤ 1000001048577 ∧ Hid (m = k0 + j) ∧ wr.ownsRow B ty 1 (.slice (some ⟨g, 0, none⟩) n cap) n ((markI Z k0 j).map encI) ∧ w.grownBy wr (some g)) (fun _ i _ => n - (intOf i).toNat)
    case atStart => exact ⟨0, k0, by omega, rfl, rfl, hk0, by omega, Lib.hid rfl, by rw [markI_zero]; exact h0, World.grownBy.refl _ _⟩
    case round =>
      obtain ⟨j, m, hj, rfl, rfl, hm0, hm1, hm, ho, hg⟩ := hrel
      by_cases hlt : j < n
      · have hjl : j < Z.length := by rw [← hnn'.out]; exact hlt
        obtain ⟨old, hold⟩ : ∃ old, ((markI Z k0 j).map encI)[j]? = some old := ⟨_, List.getElem?_eq_getElem (by rw [List.length_map, markI_len _ _ _ (by omega)]; exact hjl)⟩
        have hco := (ho.cellAt j (by omega)).trans hold
        have hfo := ho.frozenAt j
        have hst := ho.stored j (.int .i64 (m : Int))
        rw [hm.out, markI_set Z k0 j hjl, ← hm.out] at hst
        have hst' := Lib.hid hst
        have hmn : m + 1 ≤ 1000001048577 := by have := hm.out; omega
        clear hst hold ho
        go_wp2
        go_roundw
        case rel => exact ⟨j + 1, m + 1, by omega, by go_num, by go_num, by omega, hmn, Lib.hid (by have := hm.out; omega), hst'.out.1, gtrans hg hst'.out.2⟩
        case measure => simp [intOf]; omega
      · have hjn : j = n := by omega
        have ho2 : Hid (wr.ownsRow B ty 1 (.slice (some ⟨g, 0, none⟩) n cap) n (((List.range n).map fun i => ((k0 + i : Nat) : Int)).map encI)) := Lib.hid (by
          have h2 := ho; rw [hjn, hall'.out] at h2; exact h2)
        have hm' : Hid (m = k0 + n) := Lib.hid (by rw [← hjn]; exact hm.out)
        clear hjn ho hm
        go_wp2
        go_ret
        exact ⟨ret_int (by rw [hm'.out]), ho2.out, hg⟩

set_option maxHeartbeats 1600000 in
theorem heldInt64S_rowE {ty : TypeId} (v : Value) (n k0 B : Nat) (w : World) (hn : n ≤ 1048577) (hk0 : 0 < k0) (hk1 : k0 ≤ 1000000000000)
    (hown : w.ownsRow B ty 1 v n (((List.range n).map fun i => ((k0 + i : Nat) : Int)).map encI)) :
    Calls Tryd.prog 28 #[v, .int .i64 k0] w fun e w' => e = .returned (.int .i64 ((k0 + n : Nat) : Int)) ∧ ∃ q, w' = w.drewN q := by
  have h0 := hown
  rcases hown.2 with ⟨rfl, rfl⟩ | ⟨g, cap, cur, rfl, hg, hc, hle, _⟩
  · clear h0 hown
    go_enter Tryd.func28, Tryd.ntmps28
    go_wp2
    refine wp_loop_rounds 1 ?_
    rw [rounds_succ]
    go_wp2
    go_ret
    exact ⟨rfl, 0, rfl⟩
  · have hcell : Hid (∀ j, j < n → w.cell? ⟨g, j, none⟩ = some (.int .i64 ((k0 + j : Nat) : Int))) := Lib.hid (fun j hj => by
      rw [h0.cellAt j (by omega)]; simp [hj, encI])
    clear h0 hown hc
    go_enter Tryd.func28, Tryd.ntmps28
    go_wp2
    go_loopw [1, 5] (fun q i wr => ∃ j m d : Nat, j ≤ n ∧ i = .int .i64 j ∧ q = .int .i64 m ∧ 0 < m ∧ m ≤ 1000001048577 ∧ Hid (m = k0 + j) ∧ wr = w.drewN d) (fun _ i _ => n - (intOf i).toNat)
    case atStart => exact ⟨0, k0, 0, by omega, rfl, rfl, hk0, by omega, Lib.hid rfl, rfl⟩
    case round =>
      obtain ⟨j, m, d, hj, rfl, rfl, hm0, hm1, hm, rfl⟩ := hrel
      by_cases hlt : j < n
      · have hcj : w.cell? ⟨g, j, none⟩ = some (.int .i64 (m : Int)) := by rw [hm.out]; exact hcell.out j hlt
        have hmn : m + 1 ≤ 1000001048577 := by have := hm.out; omega
        go_wp2
        go_roundw
        case rel => exact ⟨j + 1, m + 1, d, by omega, by go_num, by go_num, by omega, hmn, Lib.hid (by have := hm.out; omega), rfl⟩
        case measure => simp [intOf]; omega
      · have hjn : j = n := by omega
        have hm' : Hid (m = k0 + n) := Lib.hid (by rw [← hjn]; exact hm.out)
        clear hjn hm
        go_wp2
        go_ret
        exact ⟨ret_int (by rw [hm'.out]), d, rfl⟩
/-- a row and a code are handed back, the row lies in a block of the type ty -/
def RowCE (ty : TypeId) (V : List Int) (C : Int) (w : World) (e : Ending) (w' : World) : Prop :=
  ∃ v, e = .returned (.tuple #[v, .int .i64 C]) ∧ w'.ownsRow w.heap.size ty 1 v V.length (V.map encI) ∧ Below w.heap.size w w'
theorem rowCE_nil {ty : TypeId} {V : List Int} {C : Int} {w w' : World} {c : Int} (hV : V = []) (hC : C = c) (hb : Below w.heap.size w w') : RowCE ty V C w (.returned (.tuple #[.slice none 0 0, .int .i64 c])) w' := by
  subst hV hC
  exact ⟨_, rfl, World.ownsRow_nil _ _ _ _, hb⟩
theorem rowCE_mk {ty : TypeId} {V V' : List Int} {C c : Int} {v : Value} {w w' : World} (hV : V = V') (hC : C = c) (ho : w'.ownsRow w.heap.size ty 1 v V'.length (V'.map encI)) (hb : Below w.heap.size w w') : RowCE ty V C w (.returned (.tuple #[v, .int .i64 c])) w' := by
  subst hV hC; exact ⟨_, rfl, ho, hb⟩
/-- rows that were made at different calls lie apart -/
theorem apart_lt {v u : Value} {m n : Nat} (h1 : ∀ k, v.ownBlock = some k → k < m) (h2 : ∀ k, u.ownBlock = some k → n ≤ k) (h : m ≤ n) : v.ownBlock = none ∨ v.ownBlock ≠ u.ownBlock := by
  cases e : v.ownBlock with
  | none => exact Or.inl rfl
  | some b => right; intro hh; have := h1 b e; have := h2 b hh.symm; omega
theorem apart_gt {v u : Value} {m n : Nat} (h1 : ∀ k, v.ownBlock = some k → n ≤ k) (h2 : ∀ k, u.ownBlock = some k → k < m) (h : m ≤ n) : v.ownBlock = none ∨ v.ownBlock ≠ u.ownBlock := by
  cases e : v.ownBlock with
  | none => exact Or.inl rfl
  | some b => right; intro hh; have := h1 b e; have := h2 b hh.symm; omega
end Go.Proofs.YtcgmpomhklhmaaaDoor
