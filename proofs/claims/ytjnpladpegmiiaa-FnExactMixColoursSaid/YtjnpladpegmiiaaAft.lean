/-
  The colour that coats give, and the fewest coats: what both sides compute.
-/
import Derived.Test.YtjnpladpegmiiaaOrd
import Derived.Test.YtjnpladpegmiiaaOvs
namespace Go.Proofs.Ytjnpladpegmiiaa
open Go.ChangeShapes Go.WideShapes Go.ChangeAt Go.RowKit Go.Deep
set_option linter.unusedVariables false
set_option linter.unusedSimpArgs false
set_option maxRecDepth 1000000
/-- a coat over a colour -/
def ov3 (c : List Int) (v : Int) (G : List Int) : List Int := [ovN (G.getD 0 0) (c.getD 0 0) v, ovN (G.getD 1 0) (c.getD 1 0) v, ovN (G.getD 2 0) (c.getD 2 0) v]
/-- the colour after the first k of an order -/
def aftK (Z : List Ct) (O G : List Int) : Nat → List Int
  | 0 => G
  | k + 1 => ov3 (Z.getD (O.getD k 0).toNat ct0).col (Z.getD (O.getD k 0).toNat ct0).cover (aftK Z O G k)
def col3 (G : List Int) : Prop := ∃ a b c : Int, G = [a, b, c] ∧ (0 ≤ a ∧ a ≤ 255) ∧ (0 ≤ b ∧ b ≤ 255) ∧ (0 ≤ c ∧ c ≤ 255)
theorem col3_of {G : List Int} (h : colB G = true) : col3 G := colB_iff h
theorem col3_inn {G : List Int} (h : col3 G) : (∀ n ∈ G, inI n) ∧ G.length ≤ 1048576 := by
  obtain ⟨a, b, c, rfl, h1, h2, h3⟩ := h
  refine ⟨fun n hn => ?_, by simp⟩
  simp at hn
  unfold inI
  rcases hn with rfl | rfl | rfl <;> omega
theorem ov3_col {c : List Int} {v : Int} {G : List Int} (hc : col3 c) (hv : 0 ≤ v ∧ v ≤ 1000) (hG : col3 G) : col3 (ov3 c v G) := by
  obtain ⟨p, q, r, rfl, h1, h2, h3⟩ := hc
  obtain ⟨x, y, z, rfl, k1, k2, k3⟩ := hG
  exact ⟨_, _, _, rfl, ovN_bd k1 h1 hv, ovN_bd k2 h2 hv, ovN_bd k3 h3 hv⟩
theorem aft_col {Z : List Ct} {O G : List Int} (hz : ctsB Z = true) (ho : ordC Z.length O = true) (hG : colB G = true) : ∀ k, k ≤ O.length → col3 (aftK Z O G k)
  | 0, _ => col3_of hG
  | k + 1, hk => by
    have h2 := ordC_at ho (k := k) (by omega)
    have h3 := ctB_bd (cts_one hz h2.2.1)
    unfold aftK
    rw [cts_getD h2.2.1]
    exact ov3_col (col3_of h3.2.2) h3.2.1 (aft_col hz ho hG k (by omega))
def aftC (Z : List Ct) (O G : List Int) : Int := if (ctsB Z && colB G) = true then code (ordC Z.length O) 7 else 1
def aftV (Z : List Ct) (O G : List Int) : List Int := if (ctsB Z && colB G) = true then (if ordC Z.length O = true then aftK Z O G O.length else []) else []
theorem aft_in (Z : List Ct) (O G : List Int) : (∀ n ∈ aftV Z O G, inI n) ∧ (aftV Z O G).length ≤ 1048576 := by
  have h : aftV Z O G = [] ∨ col3 (aftV Z O G) := by
    unfold aftV
    by_cases h : (ctsB Z && colB G) = true
    · rw [if_pos h]
      obtain ⟨h1, h2⟩ := Bool.and_eq_true_iff.1 h
      by_cases h3 : ordC Z.length O = true
      · rw [if_pos h3]; exact Or.inr (aft_col h1 h3 h2 _ (Nat.le_refl _))
      · rw [if_neg h3]; exact Or.inl rfl
    · rw [if_neg h]; exact Or.inl rfl
  rcases h with h | h
  · rw [h]; exact ⟨fun n hn => (by cases hn), by simp⟩
  · exact col3_inn h
/-- the model's copy of a row of three -/
theorem own3_any (v : Value) (x y z : Int) (w : World) (hv : IntsAt w v [x, y, z]) : Calls Try.prog 54 #[v] w (RowI [x, y, z] w) := by
  obtain ⟨i0, hi, hz0, hz1, hz2⟩ := info_parts infoI
  obtain ⟨g, o, uc, rfl, hg, k0, k1, k2⟩ := row3 hv
  have hk := Lib.hid (And.intro k0 (And.intro k1 k2))
  clear hv k0 k1 k2
  go_enter Try.func54, Try.ntmps54
  have hown := Lib.hid (rowI_start w)
  go_wp2_with (at_builtin; refine wpList_append_own _ rfl _ _ 29 rfl w.heap.size 2 i0 (.int .i64 0) 1 8 Try.underlying29 hi hz0 hz1 hz2 rfl (by decide) _ 0 [] rfl hown.out ⟨g, o, none⟩ 3 uc [.int .i64 x, .int .i64 y, .int .i64 z] rfl rfl ?c1 ?c2 ?c3 ?c4 ?c5 ?_)
  case c1 =>
    intro j u hu
    have hb : Below w.heap.size w (w.alloc (.cells #[] 2)) := (Below.refl _ _).alloc (Nat.le_refl _) _
    have hadd : (⟨g, o, none⟩ : Addr).add j = ⟨g, o + j, none⟩ := by unfold Addr.add; split <;> simp_all
    rw [hadd, hb.cell (p := ⟨g, o + j, none⟩) hg]
    match j, hu with
    | 0, hu => rw [← hu]; exact hk.out.1
    | 1, hu => rw [← hu]; exact hk.out.2.1
    | 2, hu => rw [← hu]; exact hk.out.2.2
  case c2 =>
    intro u hu
    simp at hu
    rcases hu with rfl | rfl | rfl <;> rfl
  case c3 => unfold maxLen; omega
  case c4 => omega
  case c5 => simp
  intro v9 w9 hown9 hgrow9 _
  have hB := Lib.hid (((Below.refl w.heap.size w).alloc (Nat.le_refl _) (.cells #[] 2)).grown hgrow9 (by simp) (fun j hj => by simp [Value.ownBlock] at hj; omega))
  have hown10 : Hid (w9.ownsRow w.heap.size 2 1 v9 ([x, y, z] : List Int).length (([x, y, z] : List Int).map encI)) := Lib.hid (by simpa [encI] using hown9)
  clear hown9 hgrow9
  go_wp2
  go_ret
  exact ⟨_, rfl, hown10.out, hB.out⟩
end Go.Proofs.Ytjnpladpegmiiaa
