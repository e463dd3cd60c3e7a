/-
  A row of arcs turned round; outlines mirrored: by the program.
-/
import Derived.Test.YtdgkpghecfpgoaaArcR
import Derived.Test.YtdgkpghecfpgoaaArcX
import Derived.Test.YtdgkpghecfpgoaaArcW
import Derived.Shelf.RegionOpenPlain
import Derived.Lib.Walk
namespace Go.Proofs.Ytdgkpghecfpgoaa
open Go.ChangeShapes Go.WideShapes Go.ChangeAt Go.RowKit Go.Deep
set_option linter.unusedVariables false
set_option linter.unusedSimpArgs false
set_option maxRecDepth 1000000
/-- a row of the call's own holds the arcs A -/
def RowF (g n : Nat) (A : Nat → Arc) (w : World) : Prop := ∀ t, t < n → w.rangeAt g (t * 6) (A t).cells
theorem RowF.congr {g n : Nat} {A C : Nat → Arc} {w : World} (h : RowF g n A w) (e : ∀ t, t < n → A t = C t) : RowF g n C w := fun t ht => by rw [← e t ht]; exact h t ht
def arcF (F : Nat → Int × Int) (i : Nat) : Arc := ⟨(F (3 * i)).1, (F (3 * i)).2, (F (3 * i + 1)).1, (F (3 * i + 1)).2, (F (3 * i + 2)).1, (F (3 * i + 2)).2⟩
theorem rowF_of {g n : Nat} {F : Nat → Int × Int} {w : World} (h : RowP g (3 * n) F w) : RowF g n (arcF F) w := by
  intro i hin j v hv
  have h0 := h (3 * i) (by omega)
  have h1 := h (3 * i + 1) (by omega)
  have h2 := h (3 * i + 2) (by omega)
  match j, hv with
  | 0, hv => rw [show i * 6 + 0 = 3 * i * 2 by omega]; exact h0.1.trans hv
  | 1, hv => rw [show i * 6 + 1 = 3 * i * 2 + 1 by omega]; exact h0.2.trans hv
  | 2, hv => rw [show i * 6 + 2 = (3 * i + 1) * 2 by omega]; exact h1.1.trans hv
  | 3, hv => rw [show i * 6 + 3 = (3 * i + 1) * 2 + 1 by omega]; exact h1.2.trans hv
  | 4, hv => rw [show i * 6 + 4 = (3 * i + 2) * 2 by omega]; exact h2.1.trans hv
  | 5, hv => rw [show i * 6 + 5 = (3 * i + 2) * 2 + 1 by omega]; exact h2.2.trans hv
  | j + 6, hv => simp [arcF, Arc.cells] at hv
theorem RowF.own {g n B : Nat} {A : Nat → Arc} {w : World} (h : RowF g n A w) (hB : B ≤ g) (hg : g < w.heap.size) (hth : w.there g 0 (n * 6)) : OwnA B (.slice (some ⟨g, 0, none⟩) n n) ((List.range n).map A) w := by
  refine ⟨⟨_, n, by simp, by simp, fun _ _ => trivial, Or.inr ⟨g, 0, rfl, hg, fun i hi => ?_⟩⟩, Or.inr ⟨g, n, by simp, hB, hg, by simpa using hth⟩⟩
  have hin : i < n := by simpa using hi
  rw [Nat.zero_add, show ((List.range n).map A)[i] = A i by simp]
  exact h i hin
theorem RowF.swap {g n k q : Nat} {A : Nat → Arc} {w : World} (h : RowF g n A w) (hT : w.there g 0 (n * 6)) (hkq : k < q) (hq : q < n) : RowF g n (fun t => if t = k then A q else if t = q then A k else A t) ((w.setCells g (k * 6) (A q).cells).setCells g (q * 6) (A k).cells) := by
  have t1 := World.there_setCells hT g (k * 6) (A q).cells
  intro t ht
  by_cases e1 : t = k
  · subst e1
    simp only [if_true]
    exact World.rangeAt_setCells_apart (World.rangeAt_setCells_same _ _ _ _ (there_part hT _ _ (by rw [cells_six]; omega))) _ _ _ (Or.inr (Or.inl (by rw [cells_six]; omega)))
  · by_cases e2 : t = q
    · subst e2
      simp only [e1, if_false, if_true]
      exact World.rangeAt_setCells_same _ _ _ _ (there_part t1 _ _ (by rw [cells_six]; omega))
    · simp only [e1, e2, if_false]
      refine World.rangeAt_setCells_apart (World.rangeAt_setCells_apart (h t ht) _ _ _ ?_) _ _ _ ?_
      · rcases Nat.lt_or_gt_of_ne e1 with h1 | h1
        · exact Or.inr (Or.inl (by rw [cells_six]; omega))
        · exact Or.inr (Or.inr (by rw [cells_six]; omega))
      · rcases Nat.lt_or_gt_of_ne e2 with h1 | h1
        · exact Or.inr (Or.inl (by rw [cells_six]; omega))
        · exact Or.inr (Or.inr (by rw [cells_six]; omega))
theorem rowF_drew {g n : Nat} {A : Nat → Arc} {w : World} (h : RowF g n A w) : RowF g n A w.drew := h
theorem there_drew {w : World} {g o n : Nat} (h : w.there g o n) : w.drew.there g o n := h
theorem drew_size (w : World) : w.drew.heap.size = w.heap.size := rfl
/-- turned round but for the middle -/
def revF (n : Nat) (A : Nat → Arc) (k t : Nat) : Arc := if t < k ∨ n - 1 - k < t then A (n - 1 - t) else A t
set_option maxHeartbeats 1000000 in
theorem reverse_any (g n cap : Nat) (A : Nat → Arc) (w : World) (hn : n ≤ 1000) (hcap : n ≤ cap) (hg : g < w.heap.size) (hA : RowF g n A w) (hT : w.there g 0 (n * 6)) : Calls Try.prog 71 #[.slice (some ⟨g, 0, none⟩) n cap] w fun e w' => e = .returned (.tuple #[]) ∧ RowF g n (fun t => A (n - 1 - t)) w' ∧ w'.there g 0 (n * 6) ∧ w.grownBy w' (some g) := by
  have hA0 : Hid (RowF g n (revF n A 0) w) := Lib.hid (hA.congr (fun t ht => by unfold revF; rw [if_neg (by omega)]))
  have hT0 := Lib.hid hT
  clear hA hT
  go_enter Try.func71, Try.ntmps71
  go_wp2
  go_loopw [2, 3] (fun i j wr => ∃ (k : Nat), i = .int .i64 k ∧ j = .int .i64 ((n : Int) - 1 - k) ∧ 2 * k ≤ n ∧ g < wr.heap.size ∧ Hid (RowF g n (revF n A k) wr) ∧ Hid (wr.there g 0 (n * 6)) ∧ Hid (w.grownBy wr (some g))) (fun i _ _ => n - 2 * (intOf i).toNat)
  case atStart => exact ⟨0, rfl, by go_num, by omega, hg, hA0, hT0, Lib.hid (World.grownBy.refl _ _)⟩
  case round =>
    obtain ⟨k, rfl, rfl, hk2, hgr, hR, hTh, hG⟩ := hrel
    by_cases hlt : 2 * k + 1 < n
    · obtain ⟨q, hq⟩ : ∃ q, q = n - 1 - k := ⟨_, rfl⟩
      have hqI : (n : Int) - 1 - k = (q : Int) := by omega
      rw [hqI]
      have hkq : k < q := by omega
      have hqn : q < n := by omega
      have hkI : (k : Int) < (q : Int) := by omega
      have hqnI : (q : Int) < (n : Int) := by omega
      have hknI : (k : Int) < (n : Int) := by omega
      have hqH := Lib.hid hq
      have hsw := Lib.hid (hR.out.swap hTh.out hkq hqn)
      obtain ⟨x, hx⟩ : ∃ x, x = revF n A k k := ⟨_, rfl⟩
      obtain ⟨y, hy⟩ : ∃ y, y = revF n A k q := ⟨_, rfl⟩
      have r1 := hR.out k (by omega)
      have r2 := hR.out q hqn
      rw [← hx] at r1
      rw [← hy] at r2
      rw [← hx, ← hy] at hsw
      have hTk := Lib.hid (there_part hTh.out (k * 6) 6 (by omega))
      have hT2 := Lib.hid (fun cs : List Value => there_part (World.there_setCells hTh.out g (k * 6) cs) (q * 6) 6 (by omega))
      have hT3 := Lib.hid (fun cs cs' : List Value => World.there_setCells (World.there_setCells hTh.out g (k * 6) cs) g (q * 6) cs')
      have hnew : Hid (∀ t, t < n → (if t = k then y else if t = q then x else revF n A k t) = revF n A (k + 1) t) := Lib.hid (fun t ht => by
        have e1 : revF n A k k = A k := by unfold revF; rw [if_neg (by omega)]
        have e2 : revF n A k q = A q := by unfold revF; rw [if_neg (by omega)]
        rw [hx, hy, e1, e2]
        unfold revF
        by_cases h1 : t = k
        · rw [if_pos h1, if_pos (by omega), show n - 1 - t = q by omega]
        · rw [if_neg h1]
          by_cases h2 : t = q
          · rw [if_pos h2, if_pos (by omega), show n - 1 - t = k by omega]
          · rw [if_neg h2]
            by_cases h3 : t < k ∨ n - 1 - k < t
            · rw [if_pos h3, if_pos (by omega)]
            · rw [if_neg h3, if_neg (by omega)])
      obtain ⟨a, b, c, d, p, s⟩ := x
      obtain ⟨a', b', c', d', p', s'⟩ := y
      obtain ⟨c0, c1, c2, c3, c4, c5⟩ := arcAt_of r1
      obtain ⟨e0, e1, e2, e3, e4, e5⟩ := arcAt_of r2
      simp only at c0 c1 c2 c3 c4 c5 e0 e1 e2 e3 e4 e5
      clear hx hy hq hqI r1 r2 hk2
      have fr : ∀ i, i < n * 6 → wr.frozen? ⟨g, i, none⟩ = false := fun i hi => by have := (hTh.out i hi).2; rwa [Nat.zero_add] at this
      have f0 := fr (k * 6) (by omega)
      have f1 := fr (k * 6 + 1) (by omega)
      have f2 := fr (k * 6 + 2) (by omega)
      have f3 := fr (k * 6 + 3) (by omega)
      have f4 := fr (k * 6 + 4) (by omega)
      have f5 := fr (k * 6 + 5) (by omega)
      have h0 := fr (q * 6) (by omega)
      have h1 := fr (q * 6 + 1) (by omega)
      have h2 := fr (q * 6 + 2) (by omega)
      have h3 := fr (q * 6 + 3) (by omega)
      have h4 := fr (q * 6 + 4) (by omega)
      have h5 := fr (q * 6 + 5) (by omega)
      clear fr
      have mixed : Try.prog.follows .mixedOrders = true := by kernel_rfl
      go_wp2_with fail
      go_region_o
      go_wp2
      have F0 : RowF g n (revF n A (k + 1)) ((wr.setCells g (k * 6) [.int .i64 a', .int .i64 b', .int .i64 c', .int .i64 d', .int .i64 p', .int .i64 s']).setCells g (q * 6) [.int .i64 a, .int .i64 b, .int .i64 c, .int .i64 d, .int .i64 p, .int .i64 s]).drew := by
        have := rowF_drew (hsw.out.congr hnew.out)
        simp only [Arc.cells] at this
        exact this
      have F1 := there_drew (hT3.out [.int .i64 a', .int .i64 b', .int .i64 c', .int .i64 d', .int .i64 p', .int .i64 s'] [.int .i64 a, .int .i64 b, .int .i64 c, .int .i64 d, .int .i64 p, .int .i64 s])
      have F2 : w.grownBy ((wr.setCells g (k * 6) [.int .i64 a', .int .i64 b', .int .i64 c', .int .i64 d', .int .i64 p', .int .i64 s']).setCells g (q * 6) [.int .i64 a, .int .i64 b, .int .i64 c, .int .i64 d, .int .i64 p, .int .i64 s]).drew (some g) := gtrans hG.out (gtrans (gtrans (grown_sets g [.int .i64 a', .int .i64 b', .int .i64 c', .int .i64 d', .int .i64 p', .int .i64 s'] (k * 6) wr) (grown_sets g [.int .i64 a, .int .i64 b, .int .i64 c, .int .i64 d, .int .i64 p, .int .i64 s] (q * 6) _)) (below_grown' (belowN (Below.refl _ _) 1) _))
      have F3 : g < ((wr.setCells g (k * 6) [.int .i64 a', .int .i64 b', .int .i64 c', .int .i64 d', .int .i64 p', .int .i64 s']).setCells g (q * 6) [.int .i64 a, .int .i64 b, .int .i64 c, .int .i64 d, .int .i64 p, .int .i64 s]).drew.heap.size := by
        rw [drew_size, size_sets, size_sets]; exact hgr
      have hnest : (((((((((((((wr.setCell ⟨g, k * 6, none⟩ (.int .i64 a')).setCell ⟨g, k * 6 + 1, none⟩ (.int .i64 b')).setCell ⟨g, k * 6 + 2, none⟩ (.int .i64 c')).setCell ⟨g, k * 6 + 3, none⟩ (.int .i64 d')).setCell ⟨g, k * 6 + 4, none⟩ (.int .i64 p')).setCell ⟨g, k * 6 + 5, none⟩ (.int .i64 s')).setCell ⟨g, q * 6, none⟩ (.int .i64 a)).setCell ⟨g, q * 6 + 1, none⟩ (.int .i64 b)).setCell ⟨g, q * 6 + 2, none⟩ (.int .i64 c)).setCell ⟨g, q * 6 + 3, none⟩ (.int .i64 d)).setCell ⟨g, q * 6 + 4, none⟩ (.int .i64 p)).setCell ⟨g, q * 6 + 5, none⟩ (.int .i64 s))).drew = ((wr.setCells g (k * 6) [.int .i64 a', .int .i64 b', .int .i64 c', .int .i64 d', .int .i64 p', .int .i64 s']).setCells g (q * 6) [.int .i64 a, .int .i64 b, .int .i64 c, .int .i64 d, .int .i64 p, .int .i64 s]).drew := by simp only [World.setCells, Nat.add_assoc, Nat.reduceAdd]
      rw [hnest]
      generalize ((wr.setCells g (k * 6) [.int .i64 a', .int .i64 b', .int .i64 c', .int .i64 d', .int .i64 p', .int .i64 s']).setCells g (q * 6) [.int .i64 a, .int .i64 b, .int .i64 c, .int .i64 d, .int .i64 p, .int .i64 s]).drew = W5 at F0 F1 F2 F3 ⊢
      go_roundw
      case rel =>
        have := hqH.out
        exact ⟨k + 1, by go_num, by congr 1; omega, by omega, F3, Lib.hid F0, Lib.hid F1, Lib.hid F2⟩
      case measure => have := hqH.out; simp [intOf]; omega
    · have hR2 : Hid (RowF g n (fun t => A (n - 1 - t)) wr) := Lib.hid (hR.out.congr (fun t ht => by
        unfold revF
        by_cases h3 : t < k ∨ n - 1 - k < t
        · rw [if_pos h3]
        · rw [if_neg h3, show n - 1 - t = t by omega]))
      have hnlt : decide ((k : Int) < (n : Int) - 1 - k) = false := decide_eq_false (by omega)
      go_wp2
      refine bodyPost_end (v := .tuple #[]) (results_none rfl _ _ _) rfl ⟨rfl, hR2.out, hTh.out, hG.out⟩
end Go.Proofs.Ytdgkpghecfpgoaa
