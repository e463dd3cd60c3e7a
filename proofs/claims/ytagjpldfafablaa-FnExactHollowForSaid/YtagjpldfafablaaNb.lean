/-
  The neighbours of a place.
-/
import Derived.Test.YtagjpldfafablaaLow
namespace Go.Proofs.Ytagjpldfafablaa
open Go.ChangeShapes Go.WideShapes Go.ChangeAt Go.RowKit Go.Deep
set_option linter.unusedVariables false
set_option linter.unusedSimpArgs false
set_option maxRecDepth 1000000
attribute [local go_sem] Oper.semAt_some
theorem has_any (g o cap R C : Nat) (rg ro rc : Nat → Nat) (h : Nat → Nat → Int) (w : World) (x : GR w g o cap R C rg ro rc h) (a b : Int) (ha : -1 ≤ a ∧ a ≤ 100) (hb : -1 ≤ b ∧ b ≤ 100) : Calls Try.prog 83 #[.slice (some ⟨g, o, none⟩) R cap, .agg #[.int .i64 a, .int .i64 b]] w fun e w' => e = .returned (.bool (inB a 0 ((R : Int) - 1) && inB b 0 ((C : Int) - 1))) ∧ Below w.heap.size w w' := by
  have c0 := x.top 0 (by have := x.R1; omega)
  have b1 := x.R10
  have b2 := x.C10
  have r1 := x.R1
  have l1 := x.gl
  rw [Nat.add_zero] at c0
  clear x
  have hw1 : IntKind.i64.wrap ((C : Int) - 1) = (C : Int) - 1 := IntWalk.i64_in _ (by omega)
  have hw2 : IntKind.i64.wrap ((R : Int) - 1) = (R : Int) - 1 := IntWalk.i64_in _ (by omega)
  obtain ⟨ha0, ha1⟩ := ha
  obtain ⟨hb0, hb1⟩ := hb
  have cW := Lib.hid (fun W => withinG a 0 ((R : Int) - 1) W)
  have cX := Lib.hid (fun W => withinG b 0 ((C : Int) - 1) W)
  cases h1 : inB a 0 ((R : Int) - 1)
  · rw [h1] at cW
    clear h1
    go_enter Try.func83, Try.ntmps83
    go_wp2_with fail
    have k0 := cellB (heap_alloc_new w (.cells #[.int .i64 a, .int .i64 b] 49)) 0 _ rfl
    have k1 := cellB (heap_alloc_new w (.cells #[.int .i64 a, .int .i64 b] 49)) 1 _ rfl
    have hB : Below w.heap.size w (w.alloc (.cells #[.int .i64 a, .int .i64 b] 49)) := (Below.refl _ _).alloc (Nat.le_refl _) _
    replace c0 := (hB.cell (p := ⟨g, o, none⟩) l1).trans c0
    have hB' := Lib.hid hB
    generalize w.alloc (.cells #[.int .i64 a, .int .i64 b] 49) = W0 at k0 k1 c0 hB' ⊢
    have cC := Lib.hid (fun n => columns_at g o R cap C (rc 0) (some ⟨rg 0, ro 0, none⟩) r1 (by omega) (by omega) (W0.drewN n) c0)
    clear hB l1 c0
    go_quiet ((first | (go_at_call 81; first | (with_reducible exact Qs (cW.out _)) | (with_reducible exact Qs (cX.out _))) | (go_at_call 55; exact Qs (cC.out _))))
    go_wp2
    go_ret
    exact ⟨rfl, belowN hB'.out _⟩
  cases h2 : inB b 0 ((C : Int) - 1)
  all_goals
    rw [h1] at cW
    rw [h2] at cX
    clear h1 h2
    go_enter Try.func83, Try.ntmps83
    go_wp2_with fail
    have k0 := cellB (heap_alloc_new w (.cells #[.int .i64 a, .int .i64 b] 49)) 0 _ rfl
    have k1 := cellB (heap_alloc_new w (.cells #[.int .i64 a, .int .i64 b] 49)) 1 _ rfl
    have hB : Below w.heap.size w (w.alloc (.cells #[.int .i64 a, .int .i64 b] 49)) := (Below.refl _ _).alloc (Nat.le_refl _) _
    replace c0 := (hB.cell (p := ⟨g, o, none⟩) l1).trans c0
    have hB' := Lib.hid hB
    generalize w.alloc (.cells #[.int .i64 a, .int .i64 b] 49) = W0 at k0 k1 c0 hB' ⊢
    have cC := Lib.hid (fun n => columns_at g o R cap C (rc 0) (some ⟨rg 0, ro 0, none⟩) r1 (by omega) (by omega) (W0.drewN n) c0)
    clear hB l1 c0
    go_quiet ((first | (go_at_call 81; first | (with_reducible exact Qs (cW.out _)) | (with_reducible exact Qs (cX.out _))) | (go_at_call 55; exact Qs (cC.out _))))
    go_wp2
    go_ret
    exact ⟨rfl, belowN hB'.out _⟩
def nb4 (R C i k : Nat) : Nat → Option (Nat × Nat)
  | 0 => if 1 ≤ i then some (i - 1, k) else none
  | 1 => if 1 ≤ k then some (i, k - 1) else none
  | 2 => if k + 1 < C then some (i, k + 1) else none
  | 3 => if i + 1 < R then some (i + 1, k) else none
  | _ => none
/-- the neighbours among the first j places beside this one -/
def nbT (R C i k j : Nat) : List (Nat × Nat) := (List.range j).filterMap (nb4 R C i k)
def nbL (R C i k : Nat) : List (Nat × Nat) := nbT R C i k 4
theorem nbT_yes {R C i k j : Nat} {p : Nat × Nat} (h : nb4 R C i k j = some p) : nbT R C i k (j + 1) = nbT R C i k j ++ [p] := by
  unfold nbT; rw [List.range_succ, List.filterMap_append, List.filterMap_cons_some h]; rfl
theorem nbT_no {R C i k j : Nat} (h : nb4 R C i k j = none) : nbT R C i k (j + 1) = nbT R C i k j := by
  unfold nbT; rw [List.range_succ, List.filterMap_append, List.filterMap_cons_none h]; simp
theorem nbT_len (R C i k j : Nat) : (nbT R C i k j).length ≤ j := by
  unfold nbT; have := List.length_filterMap_le (nb4 R C i k) (List.range j); rwa [List.length_range] at this
theorem nb_in {R C i k : Nat} (hi : i < R) (hk : k < C) : ∀ p ∈ nbL R C i k, p.1 < R ∧ p.2 < C := by
  intro p hp
  unfold nbL nbT at hp
  obtain ⟨j, hj, e⟩ := List.mem_filterMap.1 hp
  match j, List.mem_range.1 hj, e with
  | 0, _, e => simp only [nb4] at e; split at e <;> simp at e; subst e; exact ⟨by show i - 1 < R; omega, hk⟩
  | 1, _, e => simp only [nb4] at e; split at e <;> simp at e; subst e; exact ⟨hi, by show k - 1 < C; omega⟩
  | 2, _, e => simp only [nb4] at e; split at e <;> simp at e; subst e; exact ⟨hi, by show k + 1 < C; omega⟩
  | 3, _, e => simp only [nb4] at e; split at e <;> simp at e; subst e; exact ⟨by show i + 1 < R; omega, hk⟩
def flatP (L : List (Nat × Nat)) : List Value := L.flatMap fun p => [.int .i64 (p.1 : Int), .int .i64 (p.2 : Int)]
theorem flatP_app (L : List (Nat × Nat)) (p : Nat × Nat) : flatP (L ++ [p]) = flatP L ++ [.int .i64 (p.1 : Int), .int .i64 (p.2 : Int)] := by unfold flatP; rw [List.flatMap_append]; simp
theorem flatP_len (L : List (Nat × Nat)) : (flatP L).length = L.length * 2 := by
  induction L with
  | nil => rfl
  | cons p L ih => unfold flatP at *; rw [List.flatMap_cons, List.length_append, ih]; simp; omega
theorem flatP_get : ∀ (L : List (Nat × Nat)) (j : Nat) (hj : j < L.length), (flatP L)[j * 2]? = some (.int .i64 (L[j].1 : Int)) ∧ (flatP L)[j * 2 + 1]? = some (.int .i64 (L[j].2 : Int))
  | p :: L, 0, _ => ⟨rfl, rfl⟩
  | p :: L, j + 1, hj => by
    have := flatP_get L j (by simpa using hj)
    unfold flatP at *
    rw [List.flatMap_cons, show (j + 1) * 2 = j * 2 + 1 + 1 by omega]
    exact this
/-- v reads as these places -/
def PlsAt (w : World) (v : Value) (L : List (Nat × Nat)) : Prop :=
  ∃ a c, v = .slice a L.length c ∧ L.length ≤ c ∧ (L = [] ∨ ∃ g, a = some ⟨g, 0, none⟩ ∧ g < w.heap.size ∧ ∀ j (hj : j < L.length), w.cell? ⟨g, j * 2, none⟩ = some (.int .i64 (L[j].1 : Int)) ∧ w.cell? ⟨g, j * 2 + 1, none⟩ = some (.int .i64 (L[j].2 : Int)))
theorem PlsAt.below {w w' : World} {v : Value} {L : List (Nat × Nat)} (h : PlsAt w v L) (hb : Below w.heap.size w w') : PlsAt w' v L := by
  obtain ⟨a, c, h1, h2, h4⟩ := h
  refine ⟨a, c, h1, h2, ?_⟩
  rcases h4 with h4 | ⟨g, e, hg, hc⟩
  · exact Or.inl h4
  · exact Or.inr ⟨g, e, Nat.lt_of_lt_of_le hg hb.size, fun j hj => ⟨(hb.cell (p := ⟨g, j * 2, none⟩) hg).trans (hc j hj).1, (hb.cell (p := ⟨g, j * 2 + 1, none⟩) hg).trans (hc j hj).2⟩⟩
theorem pls_own {w : World} {B n : Nat} {v : Value} {L : List (Nat × Nat)} (hn : n = L.length) (h : w.ownsRow B 49 2 v n (flatP L)) : PlsAt w v L := by
  subst hn
  have h0 := h
  rcases h.2 with ⟨h1, h2⟩ | ⟨g, cap, cur, hv, hg, hb, hn, hcap, _, _⟩
  · have hZ : L = [] := List.eq_nil_of_length_eq_zero h2
    subst hZ
    exact ⟨none, 0, h1, Nat.le_refl 0, Or.inl rfl⟩
  · subst hv
    refine ⟨_, cap, rfl, hn, Or.inr ⟨g, rfl, (h0.lt g rfl).2, fun j hj => ?_⟩⟩
    obtain ⟨e1, e2⟩ := flatP_get L j hj
    exact ⟨by rw [h0.cellAt (j * 2) (by omega)]; exact e1, by rw [h0.cellAt (j * 2 + 1) (by omega)]; exact e2⟩
theorem infoP : (Try.prog.info? 49).map (fun i => (i.zero, i.size, i.bytes)) = some (some (.agg #[.int .i64 0, .int .i64 0]), 2, 16) := by kernel_rfl
set_option maxHeartbeats 6400000 in
theorem neighbours_any (g o cap R C : Nat) (rg ro rc : Nat → Nat) (h : Nat → Nat → Int) (w : World) (x : GR w g o cap R C rg ro rc h) (i k : Nat) (hi9 : i < R) (hk9 : k < C) : Calls Try.prog 59 #[.slice (some ⟨g, o, none⟩) R cap, encP (i, k)] w fun e w' => ∃ v, e = .returned v ∧ PlsAt w' v (nbL R C i k) ∧ Below w.heap.size w w' ∧ (∀ b, v.ownBlock = some b → w.heap.size ≤ b) := by
  obtain ⟨i0, hi, hz0, hz1, hz2⟩ := info_parts infoP
  have hx := Lib.hid x
  have b1 := x.R10
  have b2 := x.C10
  clear x
  unfold encP
  dsimp only
  go_enter Try.func59, Try.ntmps59
  go_wp2_with fail
  have hB : Below w.heap.size w (w.alloc (.cells #[.int .i64 (i : Int), .int .i64 (k : Int)] 49)) := (Below.refl _ _).alloc (Nat.le_refl _) _
  have hst : (w.alloc (.cells #[.int .i64 (i : Int), .int .i64 (k : Int)] 49)).ownsRow w.heap.size 49 2 (.slice none 0 0) 0 (flatP (nbT R C i k 0)) := World.ownsRow_nil _ _ _ _
  have hLs : w.heap.size ≤ (w.alloc (.cells #[.int .i64 (i : Int), .int .i64 (k : Int)] 49)).heap.size := by simp
  generalize w.alloc (.cells #[.int .i64 (i : Int), .int .i64 (k : Int)] 49) = W0 at hB hst hLs ⊢
  have hwi0 : IntKind.i64.wrap ((i : Int) - 1) = (i : Int) - 1 := IntWalk.i64_in _ (by omega)
  have hwk0 : IntKind.i64.wrap ((k : Int) - 1) = (k : Int) - 1 := IntWalk.i64_in _ (by omega)
  have hwk1 : IntKind.i64.wrap ((k : Int) + 1) = (k : Int) + 1 := IntWalk.i64_in _ (by omega)
  have hwi1 : IntKind.i64.wrap ((i : Int) + 1) = (i : Int) + 1 := IntWalk.i64_in _ (by omega)
  go_loopw [5, 33] (fun v t wr => ∃ (j : Nat) (pa : Option Addr) (LN pc : Nat), j ≤ 4 ∧ t = .int .i64 j ∧ v = .slice pa LN pc ∧ LN ≤ j ∧ Hid (wr.ownsRow w.heap.size 49 2 (.slice pa LN pc) LN (flatP (nbT R C i k j))) ∧ Hid (LN = (nbT R C i k j).length) ∧ Below w.heap.size w wr ∧ w.heap.size ≤ wr.heap.size) (fun _ t _ => 4 - (intOf t).toNat)
  case atStart => exact ⟨0, none, 0, 0, by omega, rfl, rfl, by omega, Lib.hid hst, Lib.hid rfl, hB, hLs⟩
  case round =>
    obtain ⟨j, pa, LN, pc, hj, rfl, rfl, hLj, hO, hLN, hBr, hLr⟩ := hrel
    have hz := Lib.hid (hx.out.below hBr)
    rcases (show j = 0 ∨ j = 1 ∨ j = 2 ∨ j = 3 ∨ j = 4 by omega) with rfl | rfl | rfl | rfl | rfl
    · have hix : ∀ W : World, (Instr.index 105 (.agg #[.int .i64 ((i : Int) - 1), .int .i64 ((k : Int)), .int .i64 ((i : Int)), .int .i64 ((k : Int) - 1), .int .i64 ((i : Int)), .int .i64 ((k : Int) + 1), .int .i64 ((i : Int) + 1), .int .i64 ((k : Int))]) (.int .i64 0)).run Try.prog W = .ok (.agg #[.int .i64 ((i : Int) - 1), .int .i64 ((k : Int))]) W := fun _ => by kernel_rfl
      by_cases hc : 1 ≤ i
      · have hr : Hid (nbT R C i k 1 = nbT R C i k 0 ++ [(i - 1, k)]) := Lib.hid (nbT_yes (by simp only [nb4]; rw [if_pos hc]))
        have hv : (inB ((i : Int) - 1) 0 ((R : Int) - 1) && inB ((k : Int)) 0 ((C : Int) - 1)) = true := by simp only [inB, Bool.and_eq_true, decide_eq_true_eq]; omega
        have cH := Lib.hid (fun W (hW : GR W g o cap R C rg ro rc h) => has_any g o cap R C rg ro rc h W hW ((i : Int) - 1) ((k : Int)) (by omega) (by omega))
        rw [hv] at cH
        have he1 : Hid (flatP (nbT R C i k 1) = flatP (nbT R C i k 0) ++ [.int .i64 ((i : Int) - 1), .int .i64 ((k : Int))]) := Lib.hid (by
          rw [hr.out, flatP_app]
          congr 3 <;> (dsimp only; congr 1; omega))
        clear hc hv
        have hBq := Lib.hid (hBr.alloc hLr (.cells #[.int .i64 ((i : Int) - 1), .int .i64 ((k : Int))] 49))
        have kq0 := cellB (heap_alloc_new wr (.cells #[.int .i64 ((i : Int) - 1), .int .i64 ((k : Int))] 49)) 0 _ rfl
        go_wp2_with fail
        refine (cH.out _ (hx.out.below hBq.out)).mono ?_
        rintro e w2 ⟨rfl, b2'⟩
        have hBq2 := Lib.hid (hBq.out.trans (b2'.mono (Nat.le_trans hLr (by simp))))
        have q0 := (b2'.block _ (by simp)).trans (heap_alloc_new wr (.cells #[.int .i64 ((i : Int) - 1), .int .i64 ((k : Int))] 49))
        have q1 := cellB q0 0 _ rfl
        have q2 := cellB q0 1 _ rfl
        have hO2 := Lib.hid (own_kept (hO.out.alloc (.cells #[.int .i64 ((i : Int) - 1), .int .i64 ((k : Int))] 49)) b2')
        have hs2 : wr.heap.size ≤ w2.heap.size := Nat.le_trans (by simp) b2'.size
        clear b2' q0 kq0 hO hBq
        go_wp2_with (at_builtin; refine wpList_append_own _ rfl _ _ 85 rfl w.heap.size 49 i0 (.agg #[.int .i64 0, .int .i64 0]) 2 16 Try.underlying85 hi hz0 hz1 hz2 rfl (by decide) _ LN _ rfl (hO2.out.alloc _) ⟨w2.heap.size, 0, none⟩ 1 1 [.int .i64 ((i : Int) - 1), .int .i64 ((k : Int))] rfl rfl ?c1 ?c2 ?c3 ?c4 ?c5 ?_)
        case c1 => exact World.news_of_block (heap_alloc_new w2 (.cells #[.int .i64 ((i : Int) - 1), .int .i64 ((k : Int))] 49))
        case c2 => intro u hu; simp at hu; rcases hu with rfl | rfl <;> rfl
        case c3 => unfold maxLen; omega
        case c4 => omega
        case c5 => simp; omega
        intro v9 w9 hown9 hgrow9 _
        have hbl : ∀ j', (Value.slice pa LN pc).ownBlock = some j' → w.heap.size ≤ j' := fun j' hj' => (hO2.out.lt j' hj').1
        have B9 := Lib.hid ((hBq2.out.alloc hBq2.out.size (.cells #[.int .i64 ((i : Int) - 1), .int .i64 ((k : Int))] 49)).grown hgrow9 (by simp; omega) hbl)
        rw [← he1.out] at hown9
        have O9 := Lib.hid hown9
        have hs9 := B9.out.size
        obtain ⟨pa9, pc9, rfl⟩ := own_shape hown9
        clear hown9 hgrow9 hbl hO2 q1 q2
        go_wp2
        go_roundw
        case rel => exact ⟨1, pa9, LN + 1, pc9, by omega, by go_num, rfl, by omega, O9, Lib.hid (by rw [hr.out, List.length_append, hLN.out]; rfl), B9.out, hs9⟩
        case measure => simp [intOf]
      · have hr : Hid (nbT R C i k 1 = nbT R C i k 0) := Lib.hid (nbT_no (by simp only [nb4]; rw [if_neg hc]))
        have hv : (inB ((i : Int) - 1) 0 ((R : Int) - 1) && inB ((k : Int)) 0 ((C : Int) - 1)) = false := by
          simp only [inB, Bool.and_eq_false_iff, decide_eq_false_iff_not]; omega
        have cH := Lib.hid (fun W (hW : GR W g o cap R C rg ro rc h) => has_any g o cap R C rg ro rc h W hW ((i : Int) - 1) ((k : Int)) (by omega) (by omega))
        rw [hv] at cH
        clear hc hv
        have hBq := Lib.hid (hBr.alloc hLr (.cells #[.int .i64 ((i : Int) - 1), .int .i64 ((k : Int))] 49))
        have kq0 := cellB (heap_alloc_new wr (.cells #[.int .i64 ((i : Int) - 1), .int .i64 ((k : Int))] 49)) 0 _ rfl
        go_wp2_with fail
        refine (cH.out _ (hx.out.below hBq.out)).mono ?_
        rintro e w2 ⟨rfl, b2'⟩
        have hBq2 := Lib.hid (hBq.out.trans (b2'.mono (Nat.le_trans hLr (by simp))))
        have hO2 := Lib.hid (own_kept (hO.out.alloc (.cells #[.int .i64 ((i : Int) - 1), .int .i64 ((k : Int))] 49)) b2')
        have hs2 := hBq2.out.size
        clear b2' kq0 hO hBq
        go_wp2
        go_roundw
        case rel => exact ⟨1, pa, LN, pc, by omega, by go_num, rfl, by omega, Lib.hid (by rw [hr.out]; exact hO2.out), Lib.hid (by rw [hr.out]; exact hLN.out), hBq2.out, hs2⟩
        case measure => simp [intOf]
    · have hix : ∀ W : World, (Instr.index 105 (.agg #[.int .i64 ((i : Int) - 1), .int .i64 ((k : Int)), .int .i64 ((i : Int)), .int .i64 ((k : Int) - 1), .int .i64 ((i : Int)), .int .i64 ((k : Int) + 1), .int .i64 ((i : Int) + 1), .int .i64 ((k : Int))]) (.int .i64 1)).run Try.prog W = .ok (.agg #[.int .i64 ((i : Int)), .int .i64 ((k : Int) - 1)]) W := fun _ => by kernel_rfl
      by_cases hc : 1 ≤ k
      · have hr : Hid (nbT R C i k 2 = nbT R C i k 1 ++ [(i, k - 1)]) := Lib.hid (nbT_yes (by simp only [nb4]; rw [if_pos hc]))
        have hv : (inB ((i : Int)) 0 ((R : Int) - 1) && inB ((k : Int) - 1) 0 ((C : Int) - 1)) = true := by simp only [inB, Bool.and_eq_true, decide_eq_true_eq]; omega
        have cH := Lib.hid (fun W (hW : GR W g o cap R C rg ro rc h) => has_any g o cap R C rg ro rc h W hW ((i : Int)) ((k : Int) - 1) (by omega) (by omega))
        rw [hv] at cH
        have he1 : Hid (flatP (nbT R C i k 2) = flatP (nbT R C i k 1) ++ [.int .i64 ((i : Int)), .int .i64 ((k : Int) - 1)]) := Lib.hid (by
          rw [hr.out, flatP_app]
          congr 3 <;> (dsimp only; congr 1; omega))
        clear hc hv
        have hBq := Lib.hid (hBr.alloc hLr (.cells #[.int .i64 ((i : Int)), .int .i64 ((k : Int) - 1)] 49))
        have kq0 := cellB (heap_alloc_new wr (.cells #[.int .i64 ((i : Int)), .int .i64 ((k : Int) - 1)] 49)) 0 _ rfl
        go_wp2_with fail
        refine (cH.out _ (hx.out.below hBq.out)).mono ?_
        rintro e w2 ⟨rfl, b2'⟩
        have hBq2 := Lib.hid (hBq.out.trans (b2'.mono (Nat.le_trans hLr (by simp))))
        have q0 := (b2'.block _ (by simp)).trans (heap_alloc_new wr (.cells #[.int .i64 ((i : Int)), .int .i64 ((k : Int) - 1)] 49))
        have q1 := cellB q0 0 _ rfl
        have q2 := cellB q0 1 _ rfl
        have hO2 := Lib.hid (own_kept (hO.out.alloc (.cells #[.int .i64 ((i : Int)), .int .i64 ((k : Int) - 1)] 49)) b2')
        have hs2 : wr.heap.size ≤ w2.heap.size := Nat.le_trans (by simp) b2'.size
        clear b2' q0 kq0 hO hBq
        go_wp2_with (at_builtin; refine wpList_append_own _ rfl _ _ 85 rfl w.heap.size 49 i0 (.agg #[.int .i64 0, .int .i64 0]) 2 16 Try.underlying85 hi hz0 hz1 hz2 rfl (by decide) _ LN _ rfl (hO2.out.alloc _) ⟨w2.heap.size, 0, none⟩ 1 1 [.int .i64 ((i : Int)), .int .i64 ((k : Int) - 1)] rfl rfl ?c1 ?c2 ?c3 ?c4 ?c5 ?_)
        case c1 => exact World.news_of_block (heap_alloc_new w2 (.cells #[.int .i64 ((i : Int)), .int .i64 ((k : Int) - 1)] 49))
        case c2 => intro u hu; simp at hu; rcases hu with rfl | rfl <;> rfl
        case c3 => unfold maxLen; omega
        case c4 => omega
        case c5 => simp; omega
        intro v9 w9 hown9 hgrow9 _
        have hbl : ∀ j', (Value.slice pa LN pc).ownBlock = some j' → w.heap.size ≤ j' := fun j' hj' => (hO2.out.lt j' hj').1
        have B9 := Lib.hid ((hBq2.out.alloc hBq2.out.size (.cells #[.int .i64 ((i : Int)), .int .i64 ((k : Int) - 1)] 49)).grown hgrow9 (by simp; omega) hbl)
        rw [← he1.out] at hown9
        have O9 := Lib.hid hown9
        have hs9 := B9.out.size
        obtain ⟨pa9, pc9, rfl⟩ := own_shape hown9
        clear hown9 hgrow9 hbl hO2 q1 q2
        go_wp2
        go_roundw
        case rel => exact ⟨2, pa9, LN + 1, pc9, by omega, by go_num, rfl, by omega, O9, Lib.hid (by rw [hr.out, List.length_append, hLN.out]; rfl), B9.out, hs9⟩
        case measure => simp [intOf]
      · have hr : Hid (nbT R C i k 2 = nbT R C i k 1) := Lib.hid (nbT_no (by simp only [nb4]; rw [if_neg hc]))
        have hv : (inB ((i : Int)) 0 ((R : Int) - 1) && inB ((k : Int) - 1) 0 ((C : Int) - 1)) = false := by
          simp only [inB, Bool.and_eq_false_iff, decide_eq_false_iff_not]; omega
        have cH := Lib.hid (fun W (hW : GR W g o cap R C rg ro rc h) => has_any g o cap R C rg ro rc h W hW ((i : Int)) ((k : Int) - 1) (by omega) (by omega))
        rw [hv] at cH
        clear hc hv
        have hBq := Lib.hid (hBr.alloc hLr (.cells #[.int .i64 ((i : Int)), .int .i64 ((k : Int) - 1)] 49))
        have kq0 := cellB (heap_alloc_new wr (.cells #[.int .i64 ((i : Int)), .int .i64 ((k : Int) - 1)] 49)) 0 _ rfl
        go_wp2_with fail
        refine (cH.out _ (hx.out.below hBq.out)).mono ?_
        rintro e w2 ⟨rfl, b2'⟩
        have hBq2 := Lib.hid (hBq.out.trans (b2'.mono (Nat.le_trans hLr (by simp))))
        have hO2 := Lib.hid (own_kept (hO.out.alloc (.cells #[.int .i64 ((i : Int)), .int .i64 ((k : Int) - 1)] 49)) b2')
        have hs2 := hBq2.out.size
        clear b2' kq0 hO hBq
        go_wp2
        go_roundw
        case rel => exact ⟨2, pa, LN, pc, by omega, by go_num, rfl, by omega, Lib.hid (by rw [hr.out]; exact hO2.out), Lib.hid (by rw [hr.out]; exact hLN.out), hBq2.out, hs2⟩
        case measure => simp [intOf]
    · have hix : ∀ W : World, (Instr.index 105 (.agg #[.int .i64 ((i : Int) - 1), .int .i64 ((k : Int)), .int .i64 ((i : Int)), .int .i64 ((k : Int) - 1), .int .i64 ((i : Int)), .int .i64 ((k : Int) + 1), .int .i64 ((i : Int) + 1), .int .i64 ((k : Int))]) (.int .i64 2)).run Try.prog W = .ok (.agg #[.int .i64 ((i : Int)), .int .i64 ((k : Int) + 1)]) W := fun _ => by kernel_rfl
      by_cases hc : k + 1 < C
      · have hr : Hid (nbT R C i k 3 = nbT R C i k 2 ++ [(i, k + 1)]) := Lib.hid (nbT_yes (by simp only [nb4]; rw [if_pos hc]))
        have hv : (inB ((i : Int)) 0 ((R : Int) - 1) && inB ((k : Int) + 1) 0 ((C : Int) - 1)) = true := by simp only [inB, Bool.and_eq_true, decide_eq_true_eq]; omega
        have cH := Lib.hid (fun W (hW : GR W g o cap R C rg ro rc h) => has_any g o cap R C rg ro rc h W hW ((i : Int)) ((k : Int) + 1) (by omega) (by omega))
        rw [hv] at cH
        have he1 : Hid (flatP (nbT R C i k 3) = flatP (nbT R C i k 2) ++ [.int .i64 ((i : Int)), .int .i64 ((k : Int) + 1)]) := Lib.hid (by
          rw [hr.out, flatP_app]
          congr 3 <;> (dsimp only; congr 1; omega))
        clear hc hv
        have hBq := Lib.hid (hBr.alloc hLr (.cells #[.int .i64 ((i : Int)), .int .i64 ((k : Int) + 1)] 49))
        have kq0 := cellB (heap_alloc_new wr (.cells #[.int .i64 ((i : Int)), .int .i64 ((k : Int) + 1)] 49)) 0 _ rfl
        go_wp2_with fail
        refine (cH.out _ (hx.out.below hBq.out)).mono ?_
        rintro e w2 ⟨rfl, b2'⟩
        have hBq2 := Lib.hid (hBq.out.trans (b2'.mono (Nat.le_trans hLr (by simp))))
        have q0 := (b2'.block _ (by simp)).trans (heap_alloc_new wr (.cells #[.int .i64 ((i : Int)), .int .i64 ((k : Int) + 1)] 49))
        have q1 := cellB q0 0 _ rfl
        have q2 := cellB q0 1 _ rfl
        have hO2 := Lib.hid (own_kept (hO.out.alloc (.cells #[.int .i64 ((i : Int)), .int .i64 ((k : Int) + 1)] 49)) b2')
        have hs2 : wr.heap.size ≤ w2.heap.size := Nat.le_trans (by simp) b2'.size
        clear b2' q0 kq0 hO hBq
        go_wp2_with (at_builtin; refine wpList_append_own _ rfl _ _ 85 rfl w.heap.size 49 i0 (.agg #[.int .i64 0, .int .i64 0]) 2 16 Try.underlying85 hi hz0 hz1 hz2 rfl (by decide) _ LN _ rfl (hO2.out.alloc _) ⟨w2.heap.size, 0, none⟩ 1 1 [.int .i64 ((i : Int)), .int .i64 ((k : Int) + 1)] rfl rfl ?c1 ?c2 ?c3 ?c4 ?c5 ?_)
        case c1 => exact World.news_of_block (heap_alloc_new w2 (.cells #[.int .i64 ((i : Int)), .int .i64 ((k : Int) + 1)] 49))
        case c2 => intro u hu; simp at hu; rcases hu with rfl | rfl <;> rfl
        case c3 => unfold maxLen; omega
        case c4 => omega
        case c5 => simp; omega
        intro v9 w9 hown9 hgrow9 _
        have hbl : ∀ j', (Value.slice pa LN pc).ownBlock = some j' → w.heap.size ≤ j' := fun j' hj' => (hO2.out.lt j' hj').1
        have B9 := Lib.hid ((hBq2.out.alloc hBq2.out.size (.cells #[.int .i64 ((i : Int)), .int .i64 ((k : Int) + 1)] 49)).grown hgrow9 (by simp; omega) hbl)
        rw [← he1.out] at hown9
        have O9 := Lib.hid hown9
        have hs9 := B9.out.size
        obtain ⟨pa9, pc9, rfl⟩ := own_shape hown9
        clear hown9 hgrow9 hbl hO2 q1 q2
        go_wp2
        go_roundw
        case rel => exact ⟨3, pa9, LN + 1, pc9, by omega, by go_num, rfl, by omega, O9, Lib.hid (by rw [hr.out, List.length_append, hLN.out]; rfl), B9.out, hs9⟩
        case measure => simp [intOf]
      · have hr : Hid (nbT R C i k 3 = nbT R C i k 2) := Lib.hid (nbT_no (by simp only [nb4]; rw [if_neg hc]))
        have hv : (inB ((i : Int)) 0 ((R : Int) - 1) && inB ((k : Int) + 1) 0 ((C : Int) - 1)) = false := by
          simp only [inB, Bool.and_eq_false_iff, decide_eq_false_iff_not]; omega
        have cH := Lib.hid (fun W (hW : GR W g o cap R C rg ro rc h) => has_any g o cap R C rg ro rc h W hW ((i : Int)) ((k : Int) + 1) (by omega) (by omega))
        rw [hv] at cH
        clear hc hv
        have hBq := Lib.hid (hBr.alloc hLr (.cells #[.int .i64 ((i : Int)), .int .i64 ((k : Int) + 1)] 49))
        have kq0 := cellB (heap_alloc_new wr (.cells #[.int .i64 ((i : Int)), .int .i64 ((k : Int) + 1)] 49)) 0 _ rfl
        go_wp2_with fail
        refine (cH.out _ (hx.out.below hBq.out)).mono ?_
        rintro e w2 ⟨rfl, b2'⟩
        have hBq2 := Lib.hid (hBq.out.trans (b2'.mono (Nat.le_trans hLr (by simp))))
        have hO2 := Lib.hid (own_kept (hO.out.alloc (.cells #[.int .i64 ((i : Int)), .int .i64 ((k : Int) + 1)] 49)) b2')
        have hs2 := hBq2.out.size
        clear b2' kq0 hO hBq
        go_wp2
        go_roundw
        case rel => exact ⟨3, pa, LN, pc, by omega, by go_num, rfl, by omega, Lib.hid (by rw [hr.out]; exact hO2.out), Lib.hid (by rw [hr.out]; exact hLN.out), hBq2.out, hs2⟩
        case measure => simp [intOf]
    · have hix : ∀ W : World, (Instr.index 105 (.agg #[.int .i64 ((i : Int) - 1), .int .i64 ((k : Int)), .int .i64 ((i : Int)), .int .i64 ((k : Int) - 1), .int .i64 ((i : Int)), .int .i64 ((k : Int) + 1), .int .i64 ((i : Int) + 1), .int .i64 ((k : Int))]) (.int .i64 3)).run Try.prog W = .ok (.agg #[.int .i64 ((i : Int) + 1), .int .i64 ((k : Int))]) W := fun _ => by kernel_rfl
      by_cases hc : i + 1 < R
      · have hr : Hid (nbT R C i k 4 = nbT R C i k 3 ++ [(i + 1, k)]) := Lib.hid (nbT_yes (by simp only [nb4]; rw [if_pos hc]))
        have hv : (inB ((i : Int) + 1) 0 ((R : Int) - 1) && inB ((k : Int)) 0 ((C : Int) - 1)) = true := by simp only [inB, Bool.and_eq_true, decide_eq_true_eq]; omega
        have cH := Lib.hid (fun W (hW : GR W g o cap R C rg ro rc h) => has_any g o cap R C rg ro rc h W hW ((i : Int) + 1) ((k : Int)) (by omega) (by omega))
        rw [hv] at cH
        have he1 : Hid (flatP (nbT R C i k 4) = flatP (nbT R C i k 3) ++ [.int .i64 ((i : Int) + 1), .int .i64 ((k : Int))]) := Lib.hid (by
          rw [hr.out, flatP_app]
          congr 3 <;> (dsimp only; congr 1; omega))
        clear hc hv
        have hBq := Lib.hid (hBr.alloc hLr (.cells #[.int .i64 ((i : Int) + 1), .int .i64 ((k : Int))] 49))
        have kq0 := cellB (heap_alloc_new wr (.cells #[.int .i64 ((i : Int) + 1), .int .i64 ((k : Int))] 49)) 0 _ rfl
        go_wp2_with fail
        refine (cH.out _ (hx.out.below hBq.out)).mono ?_
        rintro e w2 ⟨rfl, b2'⟩
        have hBq2 := Lib.hid (hBq.out.trans (b2'.mono (Nat.le_trans hLr (by simp))))
        have q0 := (b2'.block _ (by simp)).trans (heap_alloc_new wr (.cells #[.int .i64 ((i : Int) + 1), .int .i64 ((k : Int))] 49))
        have q1 := cellB q0 0 _ rfl
        have q2 := cellB q0 1 _ rfl
        have hO2 := Lib.hid (own_kept (hO.out.alloc (.cells #[.int .i64 ((i : Int) + 1), .int .i64 ((k : Int))] 49)) b2')
        have hs2 : wr.heap.size ≤ w2.heap.size := Nat.le_trans (by simp) b2'.size
        clear b2' q0 kq0 hO hBq
        go_wp2_with (at_builtin; refine wpList_append_own _ rfl _ _ 85 rfl w.heap.size 49 i0 (.agg #[.int .i64 0, .int .i64 0]) 2 16 Try.underlying85 hi hz0 hz1 hz2 rfl (by decide) _ LN _ rfl (hO2.out.alloc _) ⟨w2.heap.size, 0, none⟩ 1 1 [.int .i64 ((i : Int) + 1), .int .i64 ((k : Int))] rfl rfl ?c1 ?c2 ?c3 ?c4 ?c5 ?_)
        case c1 => exact World.news_of_block (heap_alloc_new w2 (.cells #[.int .i64 ((i : Int) + 1), .int .i64 ((k : Int))] 49))
        case c2 => intro u hu; simp at hu; rcases hu with rfl | rfl <;> rfl
        case c3 => unfold maxLen; omega
        case c4 => omega
        case c5 => simp; omega
        intro v9 w9 hown9 hgrow9 _
        have hbl : ∀ j', (Value.slice pa LN pc).ownBlock = some j' → w.heap.size ≤ j' := fun j' hj' => (hO2.out.lt j' hj').1
        have B9 := Lib.hid ((hBq2.out.alloc hBq2.out.size (.cells #[.int .i64 ((i : Int) + 1), .int .i64 ((k : Int))] 49)).grown hgrow9 (by simp; omega) hbl)
        rw [← he1.out] at hown9
        have O9 := Lib.hid hown9
        have hs9 := B9.out.size
        obtain ⟨pa9, pc9, rfl⟩ := own_shape hown9
        clear hown9 hgrow9 hbl hO2 q1 q2
        go_wp2
        go_roundw
        case rel => exact ⟨4, pa9, LN + 1, pc9, by omega, by go_num, rfl, by omega, O9, Lib.hid (by rw [hr.out, List.length_append, hLN.out]; rfl), B9.out, hs9⟩
        case measure => simp [intOf]
      · have hr : Hid (nbT R C i k 4 = nbT R C i k 3) := Lib.hid (nbT_no (by simp only [nb4]; rw [if_neg hc]))
        have hv : (inB ((i : Int) + 1) 0 ((R : Int) - 1) && inB ((k : Int)) 0 ((C : Int) - 1)) = false := by
          simp only [inB, Bool.and_eq_false_iff, decide_eq_false_iff_not]; omega
        have cH := Lib.hid (fun W (hW : GR W g o cap R C rg ro rc h) => has_any g o cap R C rg ro rc h W hW ((i : Int) + 1) ((k : Int)) (by omega) (by omega))
        rw [hv] at cH
        clear hc hv
        have hBq := Lib.hid (hBr.alloc hLr (.cells #[.int .i64 ((i : Int) + 1), .int .i64 ((k : Int))] 49))
        have kq0 := cellB (heap_alloc_new wr (.cells #[.int .i64 ((i : Int) + 1), .int .i64 ((k : Int))] 49)) 0 _ rfl
        go_wp2_with fail
        refine (cH.out _ (hx.out.below hBq.out)).mono ?_
        rintro e w2 ⟨rfl, b2'⟩
        have hBq2 := Lib.hid (hBq.out.trans (b2'.mono (Nat.le_trans hLr (by simp))))
        have hO2 := Lib.hid (own_kept (hO.out.alloc (.cells #[.int .i64 ((i : Int) + 1), .int .i64 ((k : Int))] 49)) b2')
        have hs2 := hBq2.out.size
        clear b2' kq0 hO hBq
        go_wp2
        go_roundw
        case rel => exact ⟨4, pa, LN, pc, by omega, by go_num, rfl, by omega, Lib.hid (by rw [hr.out]; exact hO2.out), Lib.hid (by rw [hr.out]; exact hLN.out), hBq2.out, hs2⟩
        case measure => simp [intOf]
    · go_wp2
      go_ret
      exact ⟨_, rfl, pls_own hLN.out hO.out, hBr, fun b hb => (hO.out.lt b hb).1⟩
end Go.Proofs.Ytagjpldfafablaa
