/-
  The mass of a plate that is made thinner by a number: it falls; both sides weigh it.
-/
import Derived.Test.YtmppaimcejcoiaaThn
import Derived.Test.YtmppaimcejcoiaaSearch
import Derived.Test.YtmppaimcejcoiaaLst
import Derived.Test.YtmppaimcejcoiaaDryMath
import Derived.Deep.RegionHeld3
namespace Go.Proofs.Ytmppaimcejcoiaa
open Go.ChangeShapes Go.WideShapes Go.ChangeAt Go.RowKit Go.Deep
set_option linter.unusedVariables false
set_option linter.unusedSimpArgs false
set_option maxRecDepth 1000000
set_option linter.unusedVariables false
set_option linter.unusedSimpArgs false
set_option maxRecDepth 1000000
theorem tnV_mono {b b' : Int} (l z : Int) (h : b ≤ b') : tnV b' l z ≤ tnV b l z := by
  unfold tnV
  split
  · omega
  · split <;> split <;> omega
theorem suF_mono0 {h h' : Nat → Nat → Int} (L : List (Nat × Nat)) (hL : ∀ p ∈ L, h p.1 p.2 ≤ h' p.1 p.2) (s s' : Int) (hs : s ≤ s') : L.foldl (fun s p => s + h p.1 p.2) s ≤ L.foldl (fun s p => s + h' p.1 p.2) s' := by
  induction L generalizing s s' with
  | nil => exact hs
  | cons p L ih =>
    simp only [List.foldl_cons]
    exact ih (fun q hq => hL q (List.mem_cons_of_mem _ hq)) _ _ (Int.add_le_add hs (hL p (List.mem_cons_self ..)))
theorem suF_mono {h h' : Nat → Nat → Int} (L : List (Nat × Nat)) (hL : ∀ p ∈ L, h p.1 p.2 ≤ h' p.1 p.2) : suF h L ≤ suF h' L := suF_mono0 L hL 0 0 (Int.le_refl _)
theorem suF_congr {h h' : Nat → Nat → Int} (L : List (Nat × Nat)) (hL : ∀ p ∈ L, h p.1 p.2 = h' p.1 p.2) : suF h L = suF h' L := Int.le_antisymm (suF_mono L fun p hp => Int.le_of_eq (hL p hp)) (suF_mono L fun p hp => Int.le_of_eq (hL p hp).symm)
theorem masV_mono {s s' c d : Int} (hc : 0 ≤ c) (hd : 0 ≤ d) (h : s ≤ s') : masV s c d ≤ masV s' c d :=
  rnd_mono (by decide) (Int.mul_le_mul_of_nonneg_right (Int.mul_le_mul_of_nonneg_right h hc) hd)
/-- the mass of a plate that is made thinner -/
def thM (c d b l : Int) (R C : Nat) (h : Nat → Nat → Int) : Int := masV (suF (fun i k => tnV b l (h i k)) (plAll R C)) c d
theorem thM_mono {c d b b' l : Int} {R C : Nat} {h : Nat → Nat → Int} (hc : 0 ≤ c) (hd : 0 ≤ d) (hb : b ≤ b') : thM c d b' l R C h ≤ thM c d b l R C h :=
  masV_mono hc hd (suF_mono _ fun p _ => tnV_mono l (h p.1 p.2) hb)
theorem colsG_gridF {R C : Nat} (hR : 1 ≤ R) (f : Nat → Nat → Int) : colsG (gridF R C f) = C := by
  have h : 0 < (gridF R C f).length := by rw [gridF_len]; exact hR
  rw [colsG_get h, gridF_row h]; simp
theorem okG_gridF {R C : Nat} {f : Nat → Nat → Int} (hR : 1 ≤ R) (hR2 : R ≤ 10) (hC : 1 ≤ C) (hC2 : C ≤ 10) (h0 : ∀ i k, i < R → k < C → 0 ≤ f i k) (h1 : ∀ i k, i < R → k < C → f i k ≤ 1000) : okG (gridF R C f) = true := by
  unfold okG
  rw [colsG_gridF hR, gridF_len]
  simp only [Bool.and_eq_true, decide_eq_true_eq, List.all_eq_true]
  refine ⟨fun Z hZ => ?_, hR, hR2⟩
  unfold gridF at hZ
  obtain ⟨i, hi, rfl⟩ := List.mem_map.1 hZ
  have hi' := List.mem_range.1 hi
  refine rowOk_yes (by simp) (by simp; omega) (by simp; omega) ?_
  rw [List.all_eq_true]
  intro n hn
  obtain ⟨k, hk, rfl⟩ := List.mem_map.1 hn
  rw [inB_iff]
  exact ⟨h0 i k hi' (List.mem_range.1 hk), h1 i k hi' (List.mem_range.1 hk)⟩
theorem hG_gridF {R C : Nat} {f : Nat → Nat → Int} {i k : Nat} (hi : i < R) (hk : k < C) : hG (gridF R C f) i k = f i k := by
  have hi' : i < (gridF R C f).length := by rw [gridF_len]; exact hi
  have hk' : k < ((gridF R C f)[i]).length := by rw [gridF_row hi']; simpa using hk
  rw [hG_get hi' hk']
  simp only [gridF_row hi']
  simp
theorem thn_GR {w : World} {v : Value} {b l : Int} {R C : Nat} {h : Nat → Nat → Int} (hb : 0 ≤ b ∧ b ≤ 200) (hl : 1 ≤ l ∧ l ≤ 200) (hR : 1 ≤ R) (hR2 : R ≤ 10) (hC : 1 ≤ C) (hC2 : C ≤ 10) (h0 : ∀ i k, i < R → k < C → 0 ≤ h i k) (h1 : ∀ i k, i < R → k < C → h i k ≤ 1000) (hv : GridAt w v (thnG b l R C h)) :
    ∃ g o cap rg ro rc, v = .slice (some ⟨g, o, none⟩) R cap ∧ GR w g o cap R C rg ro rc (hG (thnG b l R C h)) := by
  obtain ⟨g, o, cap, rg, ro, rc, hv1, x⟩ := grid_GR hv (okG_gridF hR hR2 hC hC2 (fun i k hi hk => (tnV_bd hb hl (h0 i k hi hk) (h1 i k hi hk)).1) (fun i k hi hk => (tnV_bd hb hl (h0 i k hi hk) (h1 i k hi hk)).2))
  unfold thnG at hv1 x ⊢
  rw [gridF_len] at hv1
  rw [gridF_len, colsG_gridF hR] at x
  exact ⟨g, o, cap, rg, ro, rc, hv1, x⟩
theorem thM_eq (c d b l : Int) (R C : Nat) (h : Nat → Nat → Int) : masV (suF (hG (thnG b l R C h)) (plAll R C)) c d = thM c d b l R C h := by
  unfold thM thnG
  rw [suF_congr (plAll R C) (fun p hp => hG_gridF (mem_plAll.1 hp).1 (mem_plAll.1 hp).2)]
theorem massThin_any (c d b l : Int) (hc : 1 ≤ c ∧ c ≤ 10000) (hd : 1 ≤ d ∧ d ≤ 2000) (hb : 0 ≤ b ∧ b ≤ 200) (hl : 1 ≤ l ∧ l ≤ 200) (R C : Nat) (h : Nat → Nat → Int) (hR : 1 ≤ R) (hR2 : R ≤ 10) (hC : 1 ≤ C) (hC2 : C ≤ 10) (h0 : ∀ i k, i < R → k < C → 0 ≤ h i k) (h1 : ∀ i k, i < R → k < C → h i k ≤ 1000) (v : Value) (w : World) (hv : GridAt w v (thnG b l R C h)) : Calls Try.prog 34 #[.agg #[.int .i64 c, .int .i64 d], v] w fun e w' => e = .returned (.int .i64 (thM c d b l R C h)) ∧ Below w.heap.size w w' := by
  obtain ⟨g, o, cap, rg, ro, rc, rfl, x⟩ := thn_GR hb hl hR hR2 hC hC2 h0 h1 hv
  rw [← thM_eq]
  exact massOf_any c d hc hd g o cap R C rg ro rc _ w x
theorem l08MassThin_any (c d b l : Int) (hc : 1 ≤ c ∧ c ≤ 10000) (hd : 1 ≤ d ∧ d ≤ 2000) (hb : 0 ≤ b ∧ b ≤ 200) (hl : 1 ≤ l ∧ l ≤ 200) (R C : Nat) (h : Nat → Nat → Int) (hR : 1 ≤ R) (hR2 : R ≤ 10) (hC : 1 ≤ C) (hC2 : C ≤ 10) (h0 : ∀ i k, i < R → k < C → 0 ≤ h i k) (h1 : ∀ i k, i < R → k < C → h i k ≤ 1000) (v : Value) (w : World) (hv : GridAt w v (thnG b l R C h)) : Calls Try.prog 25 #[v, .int .i64 c, .int .i64 d] w fun e w' => e = .returned (.int .i64 (thM c d b l R C h)) ∧ DrewOf w w' := by
  obtain ⟨g, o, cap, rg, ro, rc, rfl, x⟩ := thn_GR hb hl hR hR2 hC hC2 h0 h1 hv
  rw [← thM_eq]
  exact l08Mass_any c d hc hd g o cap R C rg ro rc _ w x
def toP (c d l m : Int) (R C : Nat) (h : Nat → Nat → Int) (b : Nat) : Bool := decide (thM c d b l R C h ≤ m)
theorem toP_mono {c d l m : Int} {R C : Nat} {h : Nat → Nat → Int} (hc : 0 ≤ c) (hd : 0 ≤ d) (i j : Nat) (hij : i ≤ j) (hp : toP c d l m R C h i = true) : toP c d l m R C h j = true := by
  unfold toP at hp ⊢
  rw [decide_eq_true_eq] at hp ⊢
  exact Int.le_trans (thM_mono hc hd (by omega)) hp
def toB (c d m l : Int) : Bool := woodB c d && (inB m 0 1000000000 && inB l 1 200)
def toN (G : List (List Int)) (c d m l : Int) : Nat := lstN (toP c d l m G.length (colsG G) (hG G)) 201
def toV (G : List (List Int)) (c d m l : Int) : Int := if okP G && toB c d m l then (if toN G c d m l = 201 then 0 else (toN G c d m l : Int)) else 0
def toC (G : List (List Int)) (c d m l : Int) : Int := if okP G = true then (if toB c d m l = true then (if toN G c d m l = 201 then 3 else 0) else 2) else 1
set_option maxHeartbeats 3200000 in
theorem thto1_any (c d b l m : Int) (hc : 1 ≤ c ∧ c ≤ 10000) (hd : 1 ≤ d ∧ d ≤ 2000) (hb : 0 ≤ b ∧ b ≤ 200) (hl : 1 ≤ l ∧ l ≤ 200) (g o cap R C : Nat) (rg ro rc : Nat → Nat) (h : Nat → Nat → Int) (w : World) (x : GR w g o cap R C rg ro rc h) (bw bl bg bm : Nat) (hcl : (w.cell? ⟨bw, 0, none⟩ = some (.int .i64 c) ∧ w.cell? ⟨bw, 1, none⟩ = some (.int .i64 d) ∧ w.cell? ⟨bl, 0, none⟩ = some (.int .i64 l) ∧ w.cell? ⟨bg, 0, none⟩ = some (.slice (some ⟨g, o, none⟩) R cap) ∧ w.cell? ⟨bm, 0, none⟩ = some (.int .i64 m))) : Calls Try.prog 33 #[.int .i64 b, .pointer (some ⟨bw, 0, none⟩), .pointer (some ⟨bl, 0, none⟩), .pointer (some ⟨bg, 0, none⟩), .pointer (some ⟨bm, 0, none⟩)] w fun e w' => e = .returned (.bool (decide (thM c d b l R C h ≤ m))) ∧ Below w.heap.size w w' := by
  have cT := Lib.hid (fun W (hS : ((W.cell? ⟨bw, 0, none⟩ = some (.int .i64 c) ∧ W.cell? ⟨bw, 1, none⟩ = some (.int .i64 d) ∧ W.cell? ⟨bl, 0, none⟩ = some (.int .i64 l) ∧ W.cell? ⟨bg, 0, none⟩ = some (.slice (some ⟨g, o, none⟩) R cap) ∧ W.cell? ⟨bm, 0, none⟩ = some (.int .i64 m)) ∧ Below w.heap.size w W)) => thinAll_any b l hb hl g o cap R C rg ro rc h W (x.below hS.2))
  have cM := Lib.hid (fun W v a e vs (hS : OwnG a e W v (thnG b l R C h) vs) => massThin_any c d b l hc hd hb hl R C h x.R1 x.R10 x.C1 x.C10 x.h0 x.h1 v W hS.at)
  have hS : ((w.cell? ⟨bw, 0, none⟩ = some (.int .i64 c) ∧ w.cell? ⟨bw, 1, none⟩ = some (.int .i64 d) ∧ w.cell? ⟨bl, 0, none⟩ = some (.int .i64 l) ∧ w.cell? ⟨bg, 0, none⟩ = some (.slice (some ⟨g, o, none⟩) R cap) ∧ w.cell? ⟨bm, 0, none⟩ = some (.int .i64 m)) ∧ Below w.heap.size w w) := ⟨hcl, Below.refl _ _⟩
  have l1 := World.block_lt_of_cell? w _ hcl.1
  have l2 := World.block_lt_of_cell? w _ hcl.2.2.1
  have l3 := World.block_lt_of_cell? w _ hcl.2.2.2.1
  have l4 := World.block_lt_of_cell? w _ hcl.2.2.2.2
  have keep : ∀ W1 W2, ((W1.cell? ⟨bw, 0, none⟩ = some (.int .i64 c) ∧ W1.cell? ⟨bw, 1, none⟩ = some (.int .i64 d) ∧ W1.cell? ⟨bl, 0, none⟩ = some (.int .i64 l) ∧ W1.cell? ⟨bg, 0, none⟩ = some (.slice (some ⟨g, o, none⟩) R cap) ∧ W1.cell? ⟨bm, 0, none⟩ = some (.int .i64 m)) ∧ Below w.heap.size w W1) → Below W1.heap.size W1 W2 → ((W2.cell? ⟨bw, 0, none⟩ = some (.int .i64 c) ∧ W2.cell? ⟨bw, 1, none⟩ = some (.int .i64 d) ∧ W2.cell? ⟨bl, 0, none⟩ = some (.int .i64 l) ∧ W2.cell? ⟨bg, 0, none⟩ = some (.slice (some ⟨g, o, none⟩) R cap) ∧ W2.cell? ⟨bm, 0, none⟩ = some (.int .i64 m)) ∧ Below w.heap.size w W2) := fun W1 W2 h1 h2 => by
    obtain ⟨⟨p0, p1, p2, p3, p4⟩, hb⟩ := h1
    exact ⟨⟨(h2.cell (p := ⟨bw, 0, none⟩) (Nat.lt_of_lt_of_le l1 hb.size)).trans p0, (h2.cell (p := ⟨bw, 1, none⟩) (Nat.lt_of_lt_of_le l1 hb.size)).trans p1, (h2.cell (p := ⟨bl, 0, none⟩) (Nat.lt_of_lt_of_le l2 hb.size)).trans p2, (h2.cell (p := ⟨bg, 0, none⟩) (Nat.lt_of_lt_of_le l3 hb.size)).trans p3, (h2.cell (p := ⟨bm, 0, none⟩) (Nat.lt_of_lt_of_le l4 hb.size)).trans p4⟩, hb.trans (h2.mono hb.size)⟩
  have keepH := Lib.hid keep
  obtain ⟨M, hM⟩ : ∃ M, M = thM c d b l R C h := ⟨_, rfl⟩
  rw [← hM] at cM ⊢
  clear hM x keep l1 l2 l3 l4 hcl
  go_enter Try.func33, Try.ntmps33
  go_wp2_with fail
  go_region_held3 (fun w' => ((w'.cell? ⟨bw, 0, none⟩ = some (.int .i64 c) ∧ w'.cell? ⟨bw, 1, none⟩ = some (.int .i64 d) ∧ w'.cell? ⟨bl, 0, none⟩ = some (.int .i64 l) ∧ w'.cell? ⟨bg, 0, none⟩ = some (.slice (some ⟨g, o, none⟩) R cap) ∧ w'.cell? ⟨bm, 0, none⟩ = some (.int .i64 m)) ∧ Below w.heap.size w w'))
    (first | exact ⟨hS.1, belowN hS.2 1⟩ | exact keepH.out _ _ (by assumption) (by assumption) | assumption)
    (first
      | (go_at_call 35; (with_reducible refine (cT.out _ (by assumption)).mono ?_); rintro e w' ⟨v, vs, rfl, hown, hbel⟩)
      | (go_at_call 34; (with_reducible refine (cM.out _ _ _ _ _ (by assumption)).mono ?_); rintro e w' ⟨rfl, hbel⟩))
  all_goals rename_i hHeld
  all_goals go_wp2
  all_goals go_ret
  all_goals exact ⟨rfl, hHeld.2⟩
end Go.Proofs.Ytmppaimcejcoiaa
