/-
  Rows of numbers of the law's own: marked and held.
-/
import Derived.Test.YtmppaimcejcoiaaInts
import Derived.ChangeAgain
namespace Go.Proofs.Ytmppaimcejcoiaa
open Go.ChangeShapes Go.WideShapes Go.ChangeAt Go.RowKit
set_option linter.unusedVariables false
set_option linter.unusedSimpArgs false
theorem rowI_start (w : World) : (w.alloc (.cells #[] 2)).ownsRow w.heap.size 2 1 (.slice (some ⟨w.heap.size, 0, none⟩) 0 0) ([] : List Int).length (([] : List Int).map encI) :=
  ⟨rfl, Or.inr ⟨w.heap.size, 0, #[], rfl, Nat.le_refl _, heap_alloc_new _ _, Nat.le_refl 0, by unfold maxLen; omega, rfl, rfl⟩⟩
/-- a row of numbers whose first j are marks, k0 and on -/
def markI (Z : List Int) (k0 j : Nat) : List Int := (List.range j).map (fun i => ((k0 + i : Nat) : Int)) ++ Z.drop j
theorem markI_zero (Z : List Int) (k0 : Nat) : markI Z k0 0 = Z := by simp [markI]
theorem markI_len (Z : List Int) (k0 j : Nat) (h : j ≤ Z.length) : (markI Z k0 j).length = Z.length := by simp [markI]; omega
theorem markI_all (Z : List Int) (k0 : Nat) : markI Z k0 Z.length = (List.range Z.length).map (fun i => ((k0 + i : Nat) : Int)) := by simp [markI]
theorem markI_set (Z : List Int) (k0 j : Nat) (h : j < Z.length) : ((markI Z k0 j).map encI).set j (.int .i64 ((k0 + j : Nat) : Int)) = (markI Z k0 (j + 1)).map encI := by
  unfold markI
  have e : (Z.drop j) = Z[j] :: Z.drop (j + 1) := by rw [List.drop_eq_getElem_cons h]
  rw [List.map_append, List.map_append, List.set_append_right _ _ (by simp), List.range_succ, List.map_append, List.map_append, List.append_assoc]
  congr 1
  simp only [List.length_map, List.length_range, Nat.sub_self]
  rw [e, List.map_cons, List.set_cons_zero]
  rfl

set_option maxHeartbeats 1600000 in
theorem markInt64S_row (v : Value) (k0 B : Nat) (Z : List Int) (w : World) (hn : Z.length ≤ 1048577) (hk0 : 0 < k0) (hk1 : k0 ≤ 1000000000000)
    (hown : w.ownsRow B 2 1 v Z.length (Z.map encI)) :
    Calls Try.prog 43 #[v, .int .i64 k0] w fun e w' =>
      e = .returned (.int .i64 ((k0 + Z.length : Nat) : Int)) ∧ w'.ownsRow B 2 1 v Z.length (((List.range Z.length).map fun i => ((k0 + i : Nat) : Int)).map encI) ∧ w.grownBy w' v.ownBlock := by
  have h0 := hown
  rcases hown.2 with ⟨rfl, hz⟩ | ⟨g, cap, cur, rfl, _⟩
  · have hZ : Z = [] := List.eq_nil_of_length_eq_zero hz
    subst hZ
    clear h0 hown hz
    go_enter Try.func43, Try.ntmps43
    go_wp2
    refine wp_loop_rounds 1 ?_
    rw [rounds_succ]
    go_wp2
    go_ret
    exact ⟨rfl, World.ownsRow_nil _ _ _ _, World.grownBy.refl _ _⟩
  · obtain ⟨n, hnn⟩ : ∃ n, n = Z.length := ⟨_, rfl⟩
    have hall := markI_all Z k0
    rw [← hnn] at hn h0 hall ⊢
    have hall' := Lib.hid hall
    have hnn' := Lib.hid hnn
    clear hown hall hnn
    go_enter Try.func43, Try.ntmps43
    go_wp2
    go_loopw [1, 5] (fun q i wr => ∃ j m : Nat, j ≤ n ∧ i = .int .i64 j ∧ q = .int .i64 m ∧ 0 < m ∧ m ≤ 1000001048577 ∧ Hid (m = k0 + j) ∧ wr.ownsRow B 2 1 (.slice (some ⟨g, 0, none⟩) n cap) n ((markI Z k0 j).map encI) ∧ w.grownBy wr (some g)) (fun _ i _ => n - (intOf i).toNat)
    case atStart => exact ⟨0, k0, by omega, rfl, rfl, hk0, by omega, Lib.hid rfl, by rw [markI_zero]; exact h0, World.grownBy.refl _ _⟩
    case round =>
      obtain ⟨j, m, hj, rfl, rfl, hm0, hm1, hm, ho, hg⟩ := hrel
      by_cases hlt : j < n
      · have hjl : j < Z.length := by rw [← hnn'.out]; exact hlt
        obtain ⟨old, hold⟩ : ∃ old, ((markI Z k0 j).map encI)[j]? = some old := ⟨_, List.getElem?_eq_getElem (by rw [List.length_map, markI_len _ _ _ (by omega)]; exact hjl)⟩
        have hco := (ho.cellAt j (by omega)).trans hold
        have hfo := ho.frozenAt j
        have hst := ho.stored j (.int .i64 (m : Int))
        rw [hm.out, markI_set Z k0 j hjl, ← hm.out] at hst
        have hst' := Lib.hid hst
        have hmn : m + 1 ≤ 1000001048577 := by have := hm.out; omega
        clear hst hold ho
        go_wp2
        go_roundw
        case rel => exact ⟨j + 1, m + 1, by omega, by go_num, by go_num, by omega, hmn, Lib.hid (by have := hm.out; omega), hst'.out.1, gtrans hg hst'.out.2⟩
        case measure => simp [intOf]; omega
      · have hjn : j = n := by omega
        have ho2 : Hid (wr.ownsRow B 2 1 (.slice (some ⟨g, 0, none⟩) n cap) n (((List.range n).map fun i => ((k0 + i : Nat) : Int)).map encI)) := Lib.hid (by
          have h2 := ho; rw [hjn, hall'.out] at h2; exact h2)
        have hm' : Hid (m = k0 + n) := Lib.hid (by rw [← hjn]; exact hm.out)
        clear hjn ho hm
        go_wp2
        go_ret
        exact ⟨ret_int (by rw [hm'.out]), ho2.out, hg⟩

set_option maxHeartbeats 1600000 in
theorem heldInt64S_row (v : Value) (n k0 B : Nat) (w : World) (hn : n ≤ 1048577) (hk0 : 0 < k0) (hk1 : k0 ≤ 1000000000000)
    (hown : w.ownsRow B 2 1 v n (((List.range n).map fun i => ((k0 + i : Nat) : Int)).map encI)) :
    Calls Try.prog 44 #[v, .int .i64 k0] w fun e w' => e = .returned (.int .i64 ((k0 + n : Nat) : Int)) ∧ ∃ q, w' = w.drewN q := by
  have h0 := hown
  rcases hown.2 with ⟨rfl, rfl⟩ | ⟨g, cap, cur, rfl, hg, hc, hle, _⟩
  · clear h0 hown
    go_enter Try.func44, Try.ntmps44
    go_wp2
    refine wp_loop_rounds 1 ?_
    rw [rounds_succ]
    go_wp2
    go_ret
    exact ⟨rfl, 0, rfl⟩
  · have hcell : Hid (∀ j, j < n → w.cell? ⟨g, j, none⟩ = some (.int .i64 ((k0 + j : Nat) : Int))) := Lib.hid (fun j hj => by
      rw [h0.cellAt j (by omega)]; simp [hj, encI])
    clear h0 hown hc
    go_enter Try.func44, Try.ntmps44
    go_wp2
    go_loopw [1, 5] (fun q i wr => ∃ j m d : Nat, j ≤ n ∧ i = .int .i64 j ∧ q = .int .i64 m ∧ 0 < m ∧ m ≤ 1000001048577 ∧ Hid (m = k0 + j) ∧ wr = w.drewN d) (fun _ i _ => n - (intOf i).toNat)
    case atStart => exact ⟨0, k0, 0, by omega, rfl, rfl, hk0, by omega, Lib.hid rfl, rfl⟩
    case round =>
      obtain ⟨j, m, d, hj, rfl, rfl, hm0, hm1, hm, rfl⟩ := hrel
      by_cases hlt : j < n
      · have hcj : w.cell? ⟨g, j, none⟩ = some (.int .i64 (m : Int)) := by rw [hm.out]; exact hcell.out j hlt
        have hmn : m + 1 ≤ 1000001048577 := by have := hm.out; omega
        go_wp2
        go_roundw
        case rel => exact ⟨j + 1, m + 1, d, by omega, by go_num, by go_num, by omega, hmn, Lib.hid (by have := hm.out; omega), rfl⟩
        case measure => simp [intOf]; omega
      · have hjn : j = n := by omega
        have hm' : Hid (m = k0 + n) := Lib.hid (by rw [← hjn]; exact hm.out)
        clear hjn hm
        go_wp2
        go_ret
        exact ⟨ret_int (by rw [hm'.out]), d, rfl⟩
theorem own_low {w : World} {B B' e size n : Nat} {v : Value} {xs : List Value} (h : w.ownsRow B e size v n xs) (hB : B' ≤ B) : w.ownsRow B' e size v n xs := by
  refine ⟨h.1, ?_⟩
  rcases h.2 with h1 | ⟨g, cap, cur, hv, hg, r⟩
  · exact Or.inl h1
  · exact Or.inr ⟨g, cap, cur, hv, Nat.le_trans hB hg, r⟩
end Go.Proofs.Ytmppaimcejcoiaa
