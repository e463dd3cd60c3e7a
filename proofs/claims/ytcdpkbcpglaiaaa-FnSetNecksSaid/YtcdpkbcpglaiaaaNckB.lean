/-
  Necks: how far two are apart, the nearest one, on both sides.
-/
import Derived.Test.YtcdpkbcpglaiaaaNckA
import Derived.Test.YtcdpkbcpglaiaaaDst
import Derived.Test.YtcdpkbcpglaiaaaRowC
import Derived.OwnWalk
namespace Go.Proofs.Ytcdpkbcpglaiaaa
open Go.ChangeShapes Go.WideShapes Go.ChangeAt Go.RowKit Go.Deep
set_option linter.unusedVariables false
set_option linter.unusedSimpArgs false
set_option maxRecDepth 1000000
theorem fresh_b (w : World) (o : Obj) : Below w.heap.size w (w.alloc o) := (Below.refl _ _).alloc (Nat.le_refl _) _
/-- how far two necks are apart -/
def gapN (x y : Nck) : Int := absG x.stp y.stp + absG x.bod y.bod + absG x.ovr y.ovr + absG x.ang y.ang
theorem gapN_comm (x y : Nck) : gapN x y = gapN y x := by unfold gapN; rw [absG_comm x.stp, absG_comm x.bod, absG_comm x.ovr, absG_comm x.ang]
/-- the place of the least one of the first k, the first one of several -/
def nkN (g : Nat → Int) : Nat → Nat
  | 0 => 0
  | k + 1 => if g k < g (nkN g k) then k else nkN g k
theorem nkN_lt (g : Nat → Int) {n : Nat} (hn : 0 < n) : ∀ k, k ≤ n → nkN g k < n
  | 0, _ => hn
  | k + 1, hk => by
    unfold nkN; split
    · omega
    · exact nkN_lt g hn k (by omega)
theorem nkN_one (g : Nat → Int) : nkN g 1 = 0 := by unfold nkN; split <;> rfl
def ngG (Z : List Nck) (x : Nck) (i : Nat) : Int := gapN x (Z.getD i nck0)
def nnC (Z : List Nck) (x : Nck) : Int := if nckB x = true then (if nkC Z true = 0 then (if Z.length = 0 then 3 else 0) else nkC Z true) else 1
def nnI (Z : List Nck) (x : Nck) : Int := if nnC Z x = 0 then (nkN (ngG Z x) Z.length : Int) else 0
def nnG (Z : List Nck) (x : Nck) : Int := if nnC Z x = 0 then ngG Z x (nkN (ngG Z x) Z.length) else 0
theorem nn_bad {Z : List Nck} {x : Nck} {c : Int} (e : nnC Z x = c) (hc : c ≠ 0) : (0 : Int) = nnI Z x ∧ (0 : Int) = nnG Z x ∧ c = nnC Z x := by unfold nnI nnG; rw [e, if_neg hc, if_neg hc]; exact ⟨rfl, rfl, rfl⟩
theorem nn_good {Z : List Nck} {x : Nck} (e : nnC Z x = 0) : (nkN (ngG Z x) Z.length : Int) = nnI Z x ∧ ngG Z x (nkN (ngG Z x) Z.length) = nnG Z x ∧ (0 : Int) = nnC Z x := by unfold nnI nnG; rw [e, if_pos rfl, if_pos rfl]; exact ⟨rfl, rfl, rfl⟩
theorem nkC_ok {Z : List Nck} (h : nkC Z true = 0) : ncksB Z = true ∧ Z.length ≤ 64 := by
  unfold nkC at h
  cases hb : ncksB Z
  · rw [hb] at h; exact absurd h (by simp)
  · rw [hb, if_pos rfl, if_pos rfl] at h
    by_cases h64 : Z.length ≤ 64
    · exact ⟨rfl, h64⟩
    · rw [if_neg h64] at h; exact absurd h (by decide)
theorem nkC_cases (Z : List Nck) : nkC Z true = 0 ∨ nkC Z true = 1 ∨ nkC Z true = 2 := by
  unfold nkC
  cases ncksB Z
  · exact Or.inr (Or.inl rfl)
  · by_cases h64 : Z.length ≤ 64
    · rw [if_pos rfl, if_pos rfl, if_pos h64]; exact Or.inl rfl
    · rw [if_pos rfl, if_pos rfl, if_neg h64]; exact Or.inr (Or.inr rfl)
theorem ret_i3 {a b c a' b' c' : Int} (h1 : a = a') (h2 : b = b') (h3 : c = c') : Ending.returned (.tuple #[.int .i64 a, .int .i64 b, .int .i64 c]) = .returned (.tuple #[.int .i64 a', .int .i64 b', .int .i64 c']) := by rw [h1, h2, h3]
set_option maxHeartbeats 3200000 in
theorem gapTo_any (a : Int) (b : Int) (c : Int) (d : Int) (a' : Int) (b' : Int) (c' : Int) (d' : Int) (ha : 0 ≤ a ∧ a ≤ 10000) (hb : 0 ≤ b ∧ b ≤ 10000) (hc : 0 ≤ c ∧ c ≤ 10000) (hd : 0 ≤ d ∧ d ≤ 10000) (ha' : 0 ≤ a' ∧ a' ≤ 10000) (hb' : 0 ≤ b' ∧ b' ≤ 10000) (hc' : 0 ≤ c' ∧ c' ≤ 10000) (hd' : 0 ≤ d' ∧ d' ≤ 10000) (w : World) : Calls Try.prog 20 #[.agg #[.int .i64 a, .int .i64 b, .int .i64 c, .int .i64 d], .agg #[.int .i64 a', .int .i64 b', .int .i64 c', .int .i64 d']] w fun e w' => e = .returned (.int .i64 (gapN ⟨a, b, c, d⟩ ⟨a', b', c', d'⟩)) ∧ Below w.heap.size w w' := by
  have hG : Hid (absG a a' + absG b b' + absG c c' + absG d d' = gapN ⟨a, b, c, d⟩ ⟨a', b', c', d'⟩) := Lib.hid rfl
  have cD00 := fun W => distG a a' (by omega) (by omega) (by omega) (by omega) W
  have hz0 := absG_bnd (p := a) (q := a') (M := 10000) (by omega) (by omega) (by omega) (by omega)
  obtain ⟨z0, hzz0⟩ : ∃ z, z = absG a a' := ⟨_, rfl⟩
  rw [← hzz0] at cD00 hz0 hG
  have cD0 := Lib.hid cD00
  clear cD00 hzz0
  have cD10 := fun W => distG b b' (by omega) (by omega) (by omega) (by omega) W
  have hz1 := absG_bnd (p := b) (q := b') (M := 10000) (by omega) (by omega) (by omega) (by omega)
  obtain ⟨z1, hzz1⟩ : ∃ z, z = absG b b' := ⟨_, rfl⟩
  rw [← hzz1] at cD10 hz1 hG
  have cD1 := Lib.hid cD10
  clear cD10 hzz1
  have cD20 := fun W => distG c c' (by omega) (by omega) (by omega) (by omega) W
  have hz2 := absG_bnd (p := c) (q := c') (M := 10000) (by omega) (by omega) (by omega) (by omega)
  obtain ⟨z2, hzz2⟩ : ∃ z, z = absG c c' := ⟨_, rfl⟩
  rw [← hzz2] at cD20 hz2 hG
  have cD2 := Lib.hid cD20
  clear cD20 hzz2
  have cD30 := fun W => distG d d' (by omega) (by omega) (by omega) (by omega) W
  have hz3 := absG_bnd (p := d) (q := d') (M := 10000) (by omega) (by omega) (by omega) (by omega)
  obtain ⟨z3, hzz3⟩ : ∃ z, z = absG d d' := ⟨_, rfl⟩
  rw [← hzz3] at cD30 hz3 hG
  have cD3 := Lib.hid cD30
  clear cD30 hzz3
  have e1 : IntKind.i64.wrap (z0 + z1) = z0 + z1 := IntWalk.i64_in _ (by omega)
  have e2 : IntKind.i64.wrap (z0 + z1 + z2) = z0 + z1 + z2 := IntWalk.i64_in _ (by omega)
  have e3 : IntKind.i64.wrap (z0 + z1 + z2 + z3) = z0 + z1 + z2 + z3 := IntWalk.i64_in _ (by omega)
  have hB0 : Below w.heap.size w ((w.alloc (.cells #[.int .i64 a, .int .i64 b, .int .i64 c, .int .i64 d] 26)).alloc (.cells #[.int .i64 a', .int .i64 b', .int .i64 c', .int .i64 d'] 26)) := ((Below.refl _ _).alloc (Nat.le_refl _) _).alloc (by simp) _
  have hx : NckAt ((w.alloc (.cells #[.int .i64 a, .int .i64 b, .int .i64 c, .int .i64 d] 26)).alloc (.cells #[.int .i64 a', .int .i64 b', .int .i64 c', .int .i64 d'] 26)) w.heap.size 0 ⟨a, b, c, d⟩ := (nck_box a b c d w).below (by simp) (fresh_b _ _)
  have hy : NckAt ((w.alloc (.cells #[.int .i64 a, .int .i64 b, .int .i64 c, .int .i64 d] 26)).alloc (.cells #[.int .i64 a', .int .i64 b', .int .i64 c', .int .i64 d'] 26)) (w.heap.size + 1) 0 ⟨a', b', c', d'⟩ := by
    have h9 := nck_box a' b' c' d' (w.alloc (.cells #[.int .i64 a, .int .i64 b, .int .i64 c, .int .i64 d] 26))
    rwa [show (w.alloc (.cells #[.int .i64 a, .int .i64 b, .int .i64 c, .int .i64 d] 26)).heap.size = w.heap.size + 1 by simp] at h9
  go_enter Try.func20, Try.ntmps20
  go_wp2_with fail
  generalize ((w.alloc (.cells #[.int .i64 a, .int .i64 b, .int .i64 c, .int .i64 d] 26)).alloc (.cells #[.int .i64 a', .int .i64 b', .int .i64 c', .int .i64 d'] 26)) = W at hB0 hx hy ⊢
  obtain ⟨c0, c1, c2, c3⟩ := hx
  obtain ⟨d0, d1, d2, d3⟩ := hy
  simp only [Nat.zero_add] at c0 c1 c2 c3 d0 d1 d2 d3
  go_wp2
  go_quiet ((first
    | (go_at_call 25; (with_reducible exact Qs (cD0.out _)))
    | (go_at_call 25; (with_reducible exact Qs (cD1.out _)))
    | (go_at_call 25; (with_reducible exact Qs (cD2.out _)))
    | (go_at_call 25; (with_reducible exact Qs (cD3.out _)))))
  go_wp2
  go_ret
  exact ⟨ret_int hG.out, belowN hB0 _⟩
end Go.Proofs.Ytcdpkbcpglaiaaa
