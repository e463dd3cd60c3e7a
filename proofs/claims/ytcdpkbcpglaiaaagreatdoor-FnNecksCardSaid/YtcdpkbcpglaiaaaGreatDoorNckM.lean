/-
  Necks: angles, shims and bridges that are just enough; mathematics.
-/
import Derived.Test.YtcdpkbcpglaiaaaGreatDoorNckT
import Derived.Test.YtcdpkbcpglaiaaaGreatDoorLst
import Derived.Test.YtcdpkbcpglaiaaaGreatDoorDryMath
namespace Go.Proofs.YtcdpkbcpglaiaaaGreatDoor
open Go.ChangeShapes Go.WideShapes Go.ChangeAt Go.RowKit Go.Deep
set_option linter.unusedVariables false
set_option linter.unusedSimpArgs false
set_option maxRecDepth 1000000
def cd3 (b1 b2 : Bool) (c : Int) : Int := if b1 = true then (if b2 = true then c else 2) else 1
theorem fresh_k (w : World) (o : Obj) : Below w.heap.size w (w.alloc o) := (Below.refl _ _).alloc (Nat.le_refl _) _
theorem prj_mono {b c p p' : Int} (hb : 0 ≤ b) (h : p ≤ p') : prjV b c p ≤ prjV b c p' := by
  have := rnd_mono (b := 1000) (by decide) (Int.mul_le_mul_of_nonneg_left h hb)
  unfold prjV; omega
theorem shm_mono {d k k' j : Int} (hj : 1 ≤ j) (h : k ≤ k') : shmV d k j ≤ shmV d k' j := by
  have := rnd_mono (a := 1000 * k) (a' := 1000 * k') (b := j) (by omega) (by omega)
  unfold shmV; omega
def agP (b c z : Int) (k : Nat) : Bool := decide (z ≤ prjV b c (k : Int))
def shP (b c d z y : Int) (k : Nat) : Bool := decide (z ≤ prjV b c (shmV d (k : Int) y))
def brP (b c d z : Int) (k : Nat) : Bool := decide (z ≤ (k : Int) - prjV b c d)
theorem ag_mono {b c z : Int} (hb : 0 ≤ b) (i j : Nat) (hij : i ≤ j) (h : agP b c z i = true) : agP b c z j = true := by
  simp only [agP, decide_eq_true_eq] at h ⊢
  have := prj_mono (b := b) (c := c) (p := (i : Int)) (p' := (j : Int)) hb (by omega)
  omega
theorem sh_mono {b c d z y : Int} (hb : 0 ≤ b) (hy : 1 ≤ y) (i j : Nat) (hij : i ≤ j) (h : shP b c d z y i = true) : shP b c d z y j = true := by
  simp only [shP, decide_eq_true_eq] at h ⊢
  have h1 := shm_mono (d := d) (k := (i : Int)) (k' := (j : Int)) (j := y) hy (by omega)
  have := prj_mono (b := b) (c := c) hb h1
  omega
theorem br_mono {b c d z : Int} (i j : Nat) (hij : i ≤ j) (h : brP b c d z i = true) : brP b c d z j = true := by
  simp only [brP, decide_eq_true_eq] at h ⊢
  omega
def agV (b c z : Int) : Int := lfV 0 (lstN (agP b c z) 301) 301
def agC (b c z : Int) : Int := lfC (lstN (agP b c z) 301) 301
def shV (b c d z y : Int) : Int := lfV 0 (lstN (shP b c d z y) 201) 201
def shC (b c d z y : Int) : Int := lfC (lstN (shP b c d z y) 201) 201
def brV (b c d z : Int) : Int := if prjV b c d + z ≤ 2000 then prjV b c d + z else 0
def brC (b c d z : Int) : Int := if prjV b c d + z ≤ 2000 then 0 else 3
theorem br_lst {b c d z : Int} (h0 : 0 ≤ prjV b c d) (hz : 0 ≤ z) : lfV 0 (lstN (brP b c d z) 2001) 2001 = brV b c d z ∧ lfC (lstN (brP b c d z) 2001) 2001 = brC b c d z := by
  obtain ⟨q, hq⟩ : ∃ q, q = prjV b c d := ⟨_, rfl⟩
  have hb : ∀ k : Nat, brP b c d z k = decide (z ≤ (k : Int) - q) := fun k => by rw [hq]; rfl
  rw [← hq] at h0
  have hv : brV b c d z = if q + z ≤ 2000 then q + z else 0 := by rw [hq]; rfl
  have hc : brC b c d z = if q + z ≤ 2000 then 0 else 3 := by rw [hq]; rfl
  by_cases h : q + z ≤ 2000
  · have hl : lstN (brP b c d z) 2001 = (q + z).toNat := least_lst ⟨by omega, fun t ht => by rw [hb]; exact decide_eq_false (by omega), fun t h1 _ => by rw [hb]; exact decide_eq_true (by omega)⟩
    rw [hl, hv, hc, if_pos h, if_pos h]
    unfold lfV lfC
    rw [if_neg (by omega), if_neg (by omega)]
    exact ⟨by omega, rfl⟩
  · have hl : lstN (brP b c d z) 2001 = 2001 := lst_none (fun j hj => by rw [hb]; exact decide_eq_false (by omega))
    rw [hl, hv, hc, if_neg h, if_neg h]
    exact ⟨rfl, rfl⟩
theorem nk_box1 (a : Int) (b : Int) (c : Int) (d : Int)  (w : World) : (((w.alloc (.cells #[.int .i64 a, .int .i64 b, .int .i64 c, .int .i64 d] 25)).cell? ⟨w.heap.size, 0, none⟩ = some (.int .i64 a) ∧ (w.alloc (.cells #[.int .i64 a, .int .i64 b, .int .i64 c, .int .i64 d] 25)).cell? ⟨w.heap.size, 1, none⟩ = some (.int .i64 b) ∧ (w.alloc (.cells #[.int .i64 a, .int .i64 b, .int .i64 c, .int .i64 d] 25)).cell? ⟨w.heap.size, 2, none⟩ = some (.int .i64 c) ∧ (w.alloc (.cells #[.int .i64 a, .int .i64 b, .int .i64 c, .int .i64 d] 25)).cell? ⟨w.heap.size, 3, none⟩ = some (.int .i64 d))) ∧ Below w.heap.size w (w.alloc (.cells #[.int .i64 a, .int .i64 b, .int .i64 c, .int .i64 d] 25)) ∧ w.heap.size + 1 ≤ (w.alloc (.cells #[.int .i64 a, .int .i64 b, .int .i64 c, .int .i64 d] 25)).heap.size := by
  have h0 : NckAt (w.alloc (.cells #[.int .i64 a, .int .i64 b, .int .i64 c, .int .i64 d] 25)) w.heap.size 0 ⟨a, b, c, d⟩ := nck_box a b c d w
  exact ⟨h0, (Below.refl _ _).alloc (Nat.le_refl _) _, by simp <;> omega⟩
theorem nk_box2 (a : Int) (b : Int) (c : Int) (d : Int) (z : Int) (w : World) : ((((w.alloc (.cells #[.int .i64 a, .int .i64 b, .int .i64 c, .int .i64 d] 25)).alloc (.cells #[.int .i64 z] 2)).cell? ⟨w.heap.size, 0, none⟩ = some (.int .i64 a) ∧ ((w.alloc (.cells #[.int .i64 a, .int .i64 b, .int .i64 c, .int .i64 d] 25)).alloc (.cells #[.int .i64 z] 2)).cell? ⟨w.heap.size, 1, none⟩ = some (.int .i64 b) ∧ ((w.alloc (.cells #[.int .i64 a, .int .i64 b, .int .i64 c, .int .i64 d] 25)).alloc (.cells #[.int .i64 z] 2)).cell? ⟨w.heap.size, 2, none⟩ = some (.int .i64 c) ∧ ((w.alloc (.cells #[.int .i64 a, .int .i64 b, .int .i64 c, .int .i64 d] 25)).alloc (.cells #[.int .i64 z] 2)).cell? ⟨w.heap.size, 3, none⟩ = some (.int .i64 d)) ∧ ((w.alloc (.cells #[.int .i64 a, .int .i64 b, .int .i64 c, .int .i64 d] 25)).alloc (.cells #[.int .i64 z] 2)).cell? ⟨w.heap.size + 1, 0, none⟩ = some (.int .i64 z)) ∧ Below w.heap.size w ((w.alloc (.cells #[.int .i64 a, .int .i64 b, .int .i64 c, .int .i64 d] 25)).alloc (.cells #[.int .i64 z] 2)) ∧ w.heap.size + 2 ≤ ((w.alloc (.cells #[.int .i64 a, .int .i64 b, .int .i64 c, .int .i64 d] 25)).alloc (.cells #[.int .i64 z] 2)).heap.size := by
  have h0 : NckAt (w.alloc (.cells #[.int .i64 a, .int .i64 b, .int .i64 c, .int .i64 d] 25)) w.heap.size 0 ⟨a, b, c, d⟩ := nck_box a b c d w
  have b0 : Below (w.alloc (.cells #[.int .i64 a, .int .i64 b, .int .i64 c, .int .i64 d] 25)).heap.size (w.alloc (.cells #[.int .i64 a, .int .i64 b, .int .i64 c, .int .i64 d] 25)) ((w.alloc (.cells #[.int .i64 a, .int .i64 b, .int .i64 c, .int .i64 d] 25)).alloc (.cells #[.int .i64 z] 2)) := fresh_k _ _
  have s0 : (w.alloc (.cells #[.int .i64 a, .int .i64 b, .int .i64 c, .int .i64 d] 25)).heap.size = w.heap.size + 1 := by simp
  have n0 : ((w.alloc (.cells #[.int .i64 a, .int .i64 b, .int .i64 c, .int .i64 d] 25)).alloc (.cells #[.int .i64 z] 2)).cell? ⟨w.heap.size + 1, 0, none⟩ = some (.int .i64 z) := by rw [← s0]; exact cellB (heap_alloc_new _ _) 0 _ rfl
  replace h0 : NckAt ((w.alloc (.cells #[.int .i64 a, .int .i64 b, .int .i64 c, .int .i64 d] 25)).alloc (.cells #[.int .i64 z] 2)) w.heap.size 0 ⟨a, b, c, d⟩ := h0.below (by omega) b0
  exact ⟨⟨h0, n0⟩, ((Below.refl _ _).alloc (Nat.le_refl _) _).alloc (by simp <;> omega) _, by simp <;> omega⟩
theorem nk_box3 (a : Int) (b : Int) (c : Int) (d : Int) (z : Int) (y : Int) (w : World) : (((((w.alloc (.cells #[.int .i64 a, .int .i64 b, .int .i64 c, .int .i64 d] 25)).alloc (.cells #[.int .i64 z] 2)).alloc (.cells #[.int .i64 y] 2)).cell? ⟨w.heap.size, 0, none⟩ = some (.int .i64 a) ∧ (((w.alloc (.cells #[.int .i64 a, .int .i64 b, .int .i64 c, .int .i64 d] 25)).alloc (.cells #[.int .i64 z] 2)).alloc (.cells #[.int .i64 y] 2)).cell? ⟨w.heap.size, 1, none⟩ = some (.int .i64 b) ∧ (((w.alloc (.cells #[.int .i64 a, .int .i64 b, .int .i64 c, .int .i64 d] 25)).alloc (.cells #[.int .i64 z] 2)).alloc (.cells #[.int .i64 y] 2)).cell? ⟨w.heap.size, 2, none⟩ = some (.int .i64 c) ∧ (((w.alloc (.cells #[.int .i64 a, .int .i64 b, .int .i64 c, .int .i64 d] 25)).alloc (.cells #[.int .i64 z] 2)).alloc (.cells #[.int .i64 y] 2)).cell? ⟨w.heap.size, 3, none⟩ = some (.int .i64 d)) ∧ (((w.alloc (.cells #[.int .i64 a, .int .i64 b, .int .i64 c, .int .i64 d] 25)).alloc (.cells #[.int .i64 z] 2)).alloc (.cells #[.int .i64 y] 2)).cell? ⟨w.heap.size + 1, 0, none⟩ = some (.int .i64 z) ∧ (((w.alloc (.cells #[.int .i64 a, .int .i64 b, .int .i64 c, .int .i64 d] 25)).alloc (.cells #[.int .i64 z] 2)).alloc (.cells #[.int .i64 y] 2)).cell? ⟨w.heap.size + 2, 0, none⟩ = some (.int .i64 y)) ∧ Below w.heap.size w (((w.alloc (.cells #[.int .i64 a, .int .i64 b, .int .i64 c, .int .i64 d] 25)).alloc (.cells #[.int .i64 z] 2)).alloc (.cells #[.int .i64 y] 2)) ∧ w.heap.size + 3 ≤ (((w.alloc (.cells #[.int .i64 a, .int .i64 b, .int .i64 c, .int .i64 d] 25)).alloc (.cells #[.int .i64 z] 2)).alloc (.cells #[.int .i64 y] 2)).heap.size := by
  have h0 : NckAt (w.alloc (.cells #[.int .i64 a, .int .i64 b, .int .i64 c, .int .i64 d] 25)) w.heap.size 0 ⟨a, b, c, d⟩ := nck_box a b c d w
  have b0 : Below (w.alloc (.cells #[.int .i64 a, .int .i64 b, .int .i64 c, .int .i64 d] 25)).heap.size (w.alloc (.cells #[.int .i64 a, .int .i64 b, .int .i64 c, .int .i64 d] 25)) ((w.alloc (.cells #[.int .i64 a, .int .i64 b, .int .i64 c, .int .i64 d] 25)).alloc (.cells #[.int .i64 z] 2)) := fresh_k _ _
  have s0 : (w.alloc (.cells #[.int .i64 a, .int .i64 b, .int .i64 c, .int .i64 d] 25)).heap.size = w.heap.size + 1 := by simp
  have n0 : ((w.alloc (.cells #[.int .i64 a, .int .i64 b, .int .i64 c, .int .i64 d] 25)).alloc (.cells #[.int .i64 z] 2)).cell? ⟨w.heap.size + 1, 0, none⟩ = some (.int .i64 z) := by rw [← s0]; exact cellB (heap_alloc_new _ _) 0 _ rfl
  replace h0 : NckAt ((w.alloc (.cells #[.int .i64 a, .int .i64 b, .int .i64 c, .int .i64 d] 25)).alloc (.cells #[.int .i64 z] 2)) w.heap.size 0 ⟨a, b, c, d⟩ := h0.below (by omega) b0
  have b1 : Below ((w.alloc (.cells #[.int .i64 a, .int .i64 b, .int .i64 c, .int .i64 d] 25)).alloc (.cells #[.int .i64 z] 2)).heap.size ((w.alloc (.cells #[.int .i64 a, .int .i64 b, .int .i64 c, .int .i64 d] 25)).alloc (.cells #[.int .i64 z] 2)) (((w.alloc (.cells #[.int .i64 a, .int .i64 b, .int .i64 c, .int .i64 d] 25)).alloc (.cells #[.int .i64 z] 2)).alloc (.cells #[.int .i64 y] 2)) := fresh_k _ _
  have s1 : ((w.alloc (.cells #[.int .i64 a, .int .i64 b, .int .i64 c, .int .i64 d] 25)).alloc (.cells #[.int .i64 z] 2)).heap.size = w.heap.size + 2 := by simp
  have n1 : (((w.alloc (.cells #[.int .i64 a, .int .i64 b, .int .i64 c, .int .i64 d] 25)).alloc (.cells #[.int .i64 z] 2)).alloc (.cells #[.int .i64 y] 2)).cell? ⟨w.heap.size + 2, 0, none⟩ = some (.int .i64 y) := by rw [← s1]; exact cellB (heap_alloc_new _ _) 0 _ rfl
  replace h0 : NckAt (((w.alloc (.cells #[.int .i64 a, .int .i64 b, .int .i64 c, .int .i64 d] 25)).alloc (.cells #[.int .i64 z] 2)).alloc (.cells #[.int .i64 y] 2)) w.heap.size 0 ⟨a, b, c, d⟩ := h0.below (by omega) b1
  replace n0 : (((w.alloc (.cells #[.int .i64 a, .int .i64 b, .int .i64 c, .int .i64 d] 25)).alloc (.cells #[.int .i64 z] 2)).alloc (.cells #[.int .i64 y] 2)).cell? ⟨w.heap.size + 1, 0, none⟩ = some (.int .i64 z) := (b1.cell (p := ⟨w.heap.size + 1, 0, none⟩) (show w.heap.size + 1 < _ by omega)).trans n0
  exact ⟨⟨h0, n0, n1⟩, (((Below.refl _ _).alloc (Nat.le_refl _) _).alloc (by simp <;> omega) _).alloc (by simp <;> omega) _, by simp <;> omega⟩
end Go.Proofs.YtcdpkbcpglaiaaaGreatDoor
