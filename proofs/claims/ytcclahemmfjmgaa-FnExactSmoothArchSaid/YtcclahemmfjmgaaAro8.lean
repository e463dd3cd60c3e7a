/-
  What stands around a place: the model.
-/
import Derived.Test.YtcclahemmfjmgaaStp
import Derived.Test.YtcclahemmfjmgaaEdge8
import Derived.Deep.CutRange
namespace Go.Proofs.Ytcclahemmfjmgaa
open Go.ChangeShapes Go.WideShapes Go.ChangeAt Go.RowKit Go.Deep
set_option linter.unusedVariables false
set_option linter.unusedSimpArgs false
def aro4 (R C : Nat) (h : Nat → Nat → Int) (i k : Nat) : Nat → List Int
  | 0 => if 0 < i then [h (i - 1) k] else []
  | 1 => if i + 1 < R then [h (i + 1) k] else []
  | 2 => if 0 < k then [h i (k - 1)] else []
  | 3 => if k + 1 < C then [h i (k + 1)] else []
  | _ => []
/-- what stands around a place, the first j ways -/
def aroT (R C : Nat) (h : Nat → Nat → Int) (i k j : Nat) : List Int := (List.range j).flatMap (aro4 R C h i k)
def aroL (R C : Nat) (h : Nat → Nat → Int) (i k : Nat) : List Int := aroT R C h i k 4
theorem aroT_next (R C : Nat) (h : Nat → Nat → Int) (i k j : Nat) : aroT R C h i k (j + 1) = aroT R C h i k j ++ aro4 R C h i k j := by
  unfold aroT; rw [List.range_succ, List.flatMap_append]; simp
theorem aro_mem {R C : Nat} {h : Nat → Nat → Int} {i k : Nat} (z : Int) : z ∈ aroL R C h i k ↔ ∃ q ∈ nbL R C i k, h q.1 q.2 = z := by
  have e : aroL R C h i k = (((aro4 R C h i k 0 ++ aro4 R C h i k 1) ++ aro4 R C h i k 2) ++ aro4 R C h i k 3) := by
    unfold aroL
    rw [aroT_next, aroT_next, aroT_next, aroT_next]
    simp [aroT]
  rw [e]
  simp only [List.mem_append, aro4]
  constructor
  · rintro (((hz | hz) | hz) | hz) <;> split at hz <;> simp at hz <;> subst hz
    · exact ⟨(i - 1, k), mem_nbL.2 (Or.inl ⟨by omega, rfl⟩), rfl⟩
    · exact ⟨(i + 1, k), mem_nbL.2 (Or.inr (Or.inr (Or.inr ⟨by omega, rfl⟩))), rfl⟩
    · exact ⟨(i, k - 1), mem_nbL.2 (Or.inr (Or.inl ⟨by omega, rfl⟩)), rfl⟩
    · exact ⟨(i, k + 1), mem_nbL.2 (Or.inr (Or.inr (Or.inl ⟨by omega, rfl⟩))), rfl⟩
  · rintro ⟨q, hq, rfl⟩
    rcases mem_nbL.1 hq with ⟨a, rfl⟩ | ⟨a, rfl⟩ | ⟨a, rfl⟩ | ⟨a, rfl⟩
    · exact Or.inl (Or.inl (Or.inl (by rw [if_pos (by omega)]; simp)))
    · exact Or.inl (Or.inr (by rw [if_pos (by omega)]; simp))
    · exact Or.inr (by rw [if_pos a]; simp)
    · exact Or.inl (Or.inl (Or.inr (by rw [if_pos a]; simp)))
theorem aro4_len (R C : Nat) (h : Nat → Nat → Int) (i k j : Nat) : (aro4 R C h i k j).length ≤ 1 := by
  unfold aro4; split <;> (try split) <;> simp
theorem aroT_len (R C : Nat) (h : Nat → Nat → Int) (i k : Nat) : ∀ j, (aroT R C h i k j).length ≤ j
  | 0 => by simp [aroT]
  | j + 1 => by rw [aroT_next, List.length_append]; have := aroT_len R C h i k j; have := aro4_len R C h i k j; omega
theorem infoI1 : (Try.prog.info? 2).map (fun i => (i.zero, i.size, i.bytes)) = some (some (.int .i64 0), 1, 8) := by kernel_rfl
set_option maxRecDepth 100000 in
set_option maxHeartbeats 6400000 in
theorem l07Around_any (g o cap R C : Nat) (rg ro rc : Nat → Nat) (h : Nat → Nat → Int) (w : World) (x : GR w g o cap R C rg ro rc h) (i k : Nat) (hi9 : i < R) (hk9 : k < C) : Calls Try.prog 56 #[.slice (some ⟨g, o, none⟩) R cap, .int .i64 i, .int .i64 k] w fun e w' => ∃ pa LN pc, e = .returned (.slice pa LN pc) ∧ w'.ownsRow w.heap.size 2 1 (.slice pa LN pc) LN ((aroL R C h i k).map encI) ∧ LN = (aroL R C h i k).length ∧ Below w.heap.size w w' := by
  obtain ⟨i0, hi, hz0, hz1, hz2⟩ := info_parts infoI1
  have hx := Lib.hid x
  have b1 := x.R10
  have b2 := x.C10
  clear x
  obtain ⟨iu, hiu⟩ : ∃ n : Nat, n = i - 1 := ⟨_, rfl⟩
  obtain ⟨id, hid⟩ : ∃ n : Nat, n = i + 1 := ⟨_, rfl⟩
  obtain ⟨kl, hkl⟩ : ∃ n : Nat, n = k - 1 := ⟨_, rfl⟩
  obtain ⟨kr, hkr⟩ : ∃ n : Nat, n = k + 1 := ⟨_, rfl⟩
  have hw1 : IntKind.i64.wrap ((i : Int) + 1) = (id : Int) := by rw [hid]; exact IntWalk.i64_in _ (by omega)
  have hw3 : IntKind.i64.wrap ((k : Int) + 1) = (kr : Int) := by rw [hkr]; exact IntWalk.i64_in _ (by omega)
  have e0 := Lib.hid (show aro4 R C h i k 0 = if 0 < i then [h iu k] else [] by rw [hiu]; rfl)
  have e1 := Lib.hid (show aro4 R C h i k 1 = if id < R then [h id k] else [] by rw [hid]; rfl)
  have e2 := Lib.hid (show aro4 R C h i k 2 = if 0 < k then [h i kl] else [] by rw [hkl]; rfl)
  have e3 := Lib.hid (show aro4 R C h i k 3 = if kr < C then [h i kr] else [] by rw [hkr]; rfl)
  have w0 : Hid (0 < i → IntKind.i64.wrap ((i : Int) - 1) = (iu : Int)) := Lib.hid (fun h => by rw [hiu, show (((i - 1 : Nat) : Int)) = (i : Int) - 1 by omega]; exact IntWalk.i64_in _ (by omega))
  have w2 : Hid (0 < k → IntKind.i64.wrap ((k : Int) - 1) = (kl : Int)) := Lib.hid (fun h => by rw [hkl, show (((k - 1 : Nat) : Int)) = (k : Int) - 1 by omega]; exact IntWalk.i64_in _ (by omega))
  have hnx := Lib.hid (aroT_next R C h i k)
  have hln := Lib.hid (aroT_len R C h i k)
  have huR : iu < R := by omega
  have hlC : kl < C := by omega
  clear hiu hid hkl hkr
  go_enter Try.func56, Try.ntmps56
  go_upto_if 10 with fail
  obtain ⟨LN, pc, hLNe, hpc⟩ : ∃ LN pc : Nat, LN = 0 ∧ pc = 0 := ⟨0, 0, rfl, rfl⟩
  have hst : (w.alloc (.cells #[] 2)).ownsRow w.heap.size 2 1 (.slice (some ⟨w.heap.size, 0, none⟩) LN pc) LN ((aroT R C h i k 0).map encI) := by
    rw [hLNe, hpc]
    exact ⟨rfl, Or.inr ⟨w.heap.size, 0, #[], rfl, Nat.le_refl _, heap_alloc_new _ _, Nat.le_refl 0, by unfold maxLen; omega, rfl, rfl⟩⟩
  have hO := Lib.hid hst
  have hB := Lib.hid (show Below w.heap.size w (w.alloc (.cells #[] 2)) from (Below.refl _ _).alloc (Nat.le_refl _) _)
  have hLN : Hid (LN = (aroT R C h i k 0).length) := Lib.hid (by rw [hLNe]; rfl)
  rw [show Value.slice (some ⟨w.heap.size, 0, none⟩) 0 0 = Value.slice (some ⟨w.heap.size, 0, none⟩) LN pc by rw [hLNe, hpc]]
  clear hst hLNe hpc
  generalize (some (⟨w.heap.size, 0, none⟩ : Addr)) = pa at hO ⊢
  generalize w.alloc (.cells #[] 2) = wc at hO hB ⊢
  go_cut [7] from 8 to 70 (fun s7 wx => ∃ (pa : Option Addr) (LN pc : Nat), s7 = .slice pa LN pc ∧ Hid (wx.ownsRow w.heap.size 2 1 (.slice pa LN pc) LN ((aroT R C h i k 1).map encI)) ∧ Hid (LN = (aroT R C h i k 1).length) ∧ Hid (Below w.heap.size w wx))
  case first =>
    have hz := Lib.hid (hx.out.below hB.out)
    by_cases hc : 0 < i
    · have t1 := hz.out.top iu huR
      have t2 := hz.out.cel iu huR k hk9
      have z0 := hz.out.h0 iu k huR hk9
      have z1 := hz.out.h1 iu k huR hk9
      have hr : Hid (aroT R C h i k 1 = aroT R C h i k 0 ++ [h iu k]) := Lib.hid (by rw [hnx.out, e0.out, if_pos hc])
      obtain ⟨z, hzz⟩ : ∃ z, z = h iu k := ⟨_, rfl⟩
      rw [← hzz] at t2 z0 z1 hr
      have hcI : (0 : Int) < (i : Int) := by omega
      have hiI : (iu : Int) < (R : Int) := by omega
      have hkI : (k : Int) < (C : Int) := by omega
      have hw9 := w0.out hc
      have hLN4 : LN ≤ 4 := by have := hln.out 0; have := hLN.out; omega
      clear hzz
      go_wp2_with (at_builtin; refine wpList_append_own _ rfl _ _ 39 rfl w.heap.size 2 i0 (.int .i64 0) 1 8 Try.underlying39 hi hz0 hz1 hz2 rfl (by decide) _ LN _ rfl (hO.out.alloc _) ⟨wc.heap.size, 0, none⟩ 1 1 [.int .i64 z] rfl rfl ?c1 ?c2 ?c3 ?c4 ?c5 ?_)
      case c1 => exact World.news_of_block (heap_alloc_new wc (.cells #[.int .i64 z] 2))
      case c2 => intro u hu; simp at hu; subst hu; rfl
      case c3 => unfold maxLen; omega
      case c4 => omega
      case c5 => (have := hB.out.size; simp; omega)
      intro v9 w9 hown9 hgrow9 _
      have hbl : ∀ j', (Value.slice pa LN pc).ownBlock = some j' → w.heap.size ≤ j' := fun j' hj' => (hO.out.lt j' hj').1
      have B9 := Lib.hid ((hB.out.alloc hB.out.size (.cells #[.int .i64 z] 2)).grown hgrow9 (by have := hB.out.size; simp; omega) hbl)
      have O9 : Hid (w9.ownsRow w.heap.size 2 1 v9 (LN + 1) ((aroT R C h i k 1).map encI)) := Lib.hid (by rw [hr.out, List.map_append]; exact hown9)
      obtain ⟨pa9, pc9, rfl⟩ := own_shape hown9
      have L9 : Hid (LN + 1 = (aroT R C h i k 1).length) := Lib.hid (by rw [hr.out, List.length_append, ← hLN.out]; rfl)
      clear hown9 hgrow9 hbl t1 t2
      go_wp2_with fail
      go_meet
      exact ⟨pa9, LN + 1, pc9, rfl, O9, L9, B9⟩
    · have hr : Hid (aroT R C h i k 1 = aroT R C h i k 0) := Lib.hid (by rw [hnx.out, e0.out, if_neg hc]; simp)
      have hcI : ¬ (0 : Int) < (i : Int) := by omega
      go_wp2_with fail
      go_meet
      exact ⟨pa, LN, pc, rfl, Lib.hid (by rw [hr.out]; exact hO.out), Lib.hid (by rw [hr.out]; exact hLN.out), hB⟩
  case rest =>
  clear hO hLN hB
  obtain ⟨pa, LN, pc, rfl, hO, hLN, hB⟩ := hcut
  go_upto_if 26 with fail
  go_cut [7] from 8 to 70 (fun s7 wx => ∃ (pa : Option Addr) (LN pc : Nat), s7 = .slice pa LN pc ∧ Hid (wx.ownsRow w.heap.size 2 1 (.slice pa LN pc) LN ((aroT R C h i k 2).map encI)) ∧ Hid (LN = (aroT R C h i k 2).length) ∧ Hid (Below w.heap.size w wx))
  case first =>
    have hz := Lib.hid (hx.out.below hB.out)
    by_cases hc : id < R
    · have t1 := hz.out.top id hc
      have t2 := hz.out.cel id hc k hk9
      have z0 := hz.out.h0 id k hc hk9
      have z1 := hz.out.h1 id k hc hk9
      have hr : Hid (aroT R C h i k 2 = aroT R C h i k 1 ++ [h id k]) := Lib.hid (by rw [hnx.out, e1.out, if_pos hc])
      obtain ⟨z, hzz⟩ : ∃ z, z = h id k := ⟨_, rfl⟩
      rw [← hzz] at t2 z0 z1 hr
      have hcI : (id : Int) < (R : Int) := by omega
      have hiI : (id : Int) < (R : Int) := by omega
      have hkI : (k : Int) < (C : Int) := by omega
      skip
      have hLN4 : LN ≤ 4 := by have := hln.out 1; have := hLN.out; omega
      clear hzz
      go_wp2_with (at_builtin; refine wpList_append_own _ rfl _ _ 39 rfl w.heap.size 2 i0 (.int .i64 0) 1 8 Try.underlying39 hi hz0 hz1 hz2 rfl (by decide) _ LN _ rfl (hO.out.alloc _) ⟨wc.heap.size, 0, none⟩ 1 1 [.int .i64 z] rfl rfl ?c1 ?c2 ?c3 ?c4 ?c5 ?_)
      case c1 => exact World.news_of_block (heap_alloc_new wc (.cells #[.int .i64 z] 2))
      case c2 => intro u hu; simp at hu; subst hu; rfl
      case c3 => unfold maxLen; omega
      case c4 => omega
      case c5 => (have := hB.out.size; simp; omega)
      intro v9 w9 hown9 hgrow9 _
      have hbl : ∀ j', (Value.slice pa LN pc).ownBlock = some j' → w.heap.size ≤ j' := fun j' hj' => (hO.out.lt j' hj').1
      have B9 := Lib.hid ((hB.out.alloc hB.out.size (.cells #[.int .i64 z] 2)).grown hgrow9 (by have := hB.out.size; simp; omega) hbl)
      have O9 : Hid (w9.ownsRow w.heap.size 2 1 v9 (LN + 1) ((aroT R C h i k 2).map encI)) := Lib.hid (by rw [hr.out, List.map_append]; exact hown9)
      obtain ⟨pa9, pc9, rfl⟩ := own_shape hown9
      have L9 : Hid (LN + 1 = (aroT R C h i k 2).length) := Lib.hid (by rw [hr.out, List.length_append, ← hLN.out]; rfl)
      clear hown9 hgrow9 hbl t1 t2
      go_wp2_with fail
      go_meet
      exact ⟨pa9, LN + 1, pc9, rfl, O9, L9, B9⟩
    · have hr : Hid (aroT R C h i k 2 = aroT R C h i k 1) := Lib.hid (by rw [hnx.out, e1.out, if_neg hc]; simp)
      have hcI : ¬ (id : Int) < (R : Int) := by omega
      go_wp2_with fail
      go_meet
      exact ⟨pa, LN, pc, rfl, Lib.hid (by rw [hr.out]; exact hO.out), Lib.hid (by rw [hr.out]; exact hLN.out), hB⟩
  case rest =>
  clear hO hLN hB
  obtain ⟨pa, LN, pc, rfl, hO, hLN, hB⟩ := hcut
  go_upto_if 39 with fail
  go_cut [7] from 8 to 70 (fun s7 wx => ∃ (pa : Option Addr) (LN pc : Nat), s7 = .slice pa LN pc ∧ Hid (wx.ownsRow w.heap.size 2 1 (.slice pa LN pc) LN ((aroT R C h i k 3).map encI)) ∧ Hid (LN = (aroT R C h i k 3).length) ∧ Hid (Below w.heap.size w wx))
  case first =>
    have hz := Lib.hid (hx.out.below hB.out)
    by_cases hc : 0 < k
    · have t1 := hz.out.top i hi9
      have t2 := hz.out.cel i hi9 kl hlC
      have z0 := hz.out.h0 i kl hi9 hlC
      have z1 := hz.out.h1 i kl hi9 hlC
      have hr : Hid (aroT R C h i k 3 = aroT R C h i k 2 ++ [h i kl]) := Lib.hid (by rw [hnx.out, e2.out, if_pos hc])
      obtain ⟨z, hzz⟩ : ∃ z, z = h i kl := ⟨_, rfl⟩
      rw [← hzz] at t2 z0 z1 hr
      have hcI : (0 : Int) < (k : Int) := by omega
      have hiI : (i : Int) < (R : Int) := by omega
      have hkI : (kl : Int) < (C : Int) := by omega
      have hw9 := w2.out hc
      have hLN4 : LN ≤ 4 := by have := hln.out 2; have := hLN.out; omega
      clear hzz
      go_wp2_with (at_builtin; refine wpList_append_own _ rfl _ _ 39 rfl w.heap.size 2 i0 (.int .i64 0) 1 8 Try.underlying39 hi hz0 hz1 hz2 rfl (by decide) _ LN _ rfl (hO.out.alloc _) ⟨wc.heap.size, 0, none⟩ 1 1 [.int .i64 z] rfl rfl ?c1 ?c2 ?c3 ?c4 ?c5 ?_)
      case c1 => exact World.news_of_block (heap_alloc_new wc (.cells #[.int .i64 z] 2))
      case c2 => intro u hu; simp at hu; subst hu; rfl
      case c3 => unfold maxLen; omega
      case c4 => omega
      case c5 => (have := hB.out.size; simp; omega)
      intro v9 w9 hown9 hgrow9 _
      have hbl : ∀ j', (Value.slice pa LN pc).ownBlock = some j' → w.heap.size ≤ j' := fun j' hj' => (hO.out.lt j' hj').1
      have B9 := Lib.hid ((hB.out.alloc hB.out.size (.cells #[.int .i64 z] 2)).grown hgrow9 (by have := hB.out.size; simp; omega) hbl)
      have O9 : Hid (w9.ownsRow w.heap.size 2 1 v9 (LN + 1) ((aroT R C h i k 3).map encI)) := Lib.hid (by rw [hr.out, List.map_append]; exact hown9)
      obtain ⟨pa9, pc9, rfl⟩ := own_shape hown9
      have L9 : Hid (LN + 1 = (aroT R C h i k 3).length) := Lib.hid (by rw [hr.out, List.length_append, ← hLN.out]; rfl)
      clear hown9 hgrow9 hbl t1 t2
      go_wp2_with fail
      go_meet
      exact ⟨pa9, LN + 1, pc9, rfl, O9, L9, B9⟩
    · have hr : Hid (aroT R C h i k 3 = aroT R C h i k 2) := Lib.hid (by rw [hnx.out, e2.out, if_neg hc]; simp)
      have hcI : ¬ (0 : Int) < (k : Int) := by omega
      go_wp2_with fail
      go_meet
      exact ⟨pa, LN, pc, rfl, Lib.hid (by rw [hr.out]; exact hO.out), Lib.hid (by rw [hr.out]; exact hLN.out), hB⟩
  case rest =>
  clear hO hLN hB
  obtain ⟨pa, LN, pc, rfl, hO, hLN, hB⟩ := hcut
  have t1 := (hx.out.below hB.out).top i hi9
  go_upto_if 58 with fail
  clear t1
  go_cut [7] from 8 to 70 (fun s7 wx => ∃ (pa : Option Addr) (LN pc : Nat), s7 = .slice pa LN pc ∧ Hid (wx.ownsRow w.heap.size 2 1 (.slice pa LN pc) LN ((aroT R C h i k 4).map encI)) ∧ Hid (LN = (aroT R C h i k 4).length) ∧ Hid (Below w.heap.size w wx))
  case first =>
    have hz := Lib.hid (hx.out.below hB.out)
    by_cases hc : kr < C
    · have t1 := hz.out.top i hi9
      have t2 := hz.out.cel i hi9 kr hc
      have z0 := hz.out.h0 i kr hi9 hc
      have z1 := hz.out.h1 i kr hi9 hc
      have hr : Hid (aroT R C h i k 4 = aroT R C h i k 3 ++ [h i kr]) := Lib.hid (by rw [hnx.out, e3.out, if_pos hc])
      obtain ⟨z, hzz⟩ : ∃ z, z = h i kr := ⟨_, rfl⟩
      rw [← hzz] at t2 z0 z1 hr
      have hcI : (kr : Int) < (C : Int) := by omega
      have hiI : (i : Int) < (R : Int) := by omega
      have hkI : (kr : Int) < (C : Int) := by omega
      skip
      have hLN4 : LN ≤ 4 := by have := hln.out 3; have := hLN.out; omega
      clear hzz
      go_wp2_with (at_builtin; refine wpList_append_own _ rfl _ _ 39 rfl w.heap.size 2 i0 (.int .i64 0) 1 8 Try.underlying39 hi hz0 hz1 hz2 rfl (by decide) _ LN _ rfl (hO.out.alloc _) ⟨wc.heap.size, 0, none⟩ 1 1 [.int .i64 z] rfl rfl ?c1 ?c2 ?c3 ?c4 ?c5 ?_)
      case c1 => exact World.news_of_block (heap_alloc_new wc (.cells #[.int .i64 z] 2))
      case c2 => intro u hu; simp at hu; subst hu; rfl
      case c3 => unfold maxLen; omega
      case c4 => omega
      case c5 => (have := hB.out.size; simp; omega)
      intro v9 w9 hown9 hgrow9 _
      have hbl : ∀ j', (Value.slice pa LN pc).ownBlock = some j' → w.heap.size ≤ j' := fun j' hj' => (hO.out.lt j' hj').1
      have B9 := Lib.hid ((hB.out.alloc hB.out.size (.cells #[.int .i64 z] 2)).grown hgrow9 (by have := hB.out.size; simp; omega) hbl)
      have O9 : Hid (w9.ownsRow w.heap.size 2 1 v9 (LN + 1) ((aroT R C h i k 4).map encI)) := Lib.hid (by rw [hr.out, List.map_append]; exact hown9)
      obtain ⟨pa9, pc9, rfl⟩ := own_shape hown9
      have L9 : Hid (LN + 1 = (aroT R C h i k 4).length) := Lib.hid (by rw [hr.out, List.length_append, ← hLN.out]; rfl)
      clear hown9 hgrow9 hbl t1 t2
      go_wp2_with fail
      go_meet
      exact ⟨pa9, LN + 1, pc9, rfl, O9, L9, B9⟩
    · have hr : Hid (aroT R C h i k 4 = aroT R C h i k 3) := Lib.hid (by rw [hnx.out, e3.out, if_neg hc]; simp)
      have hcI : ¬ (kr : Int) < (C : Int) := by omega
      go_wp2_with fail
      go_meet
      exact ⟨pa, LN, pc, rfl, Lib.hid (by rw [hr.out]; exact hO.out), Lib.hid (by rw [hr.out]; exact hLN.out), hB⟩
  case rest =>
  clear hO hLN hB
  obtain ⟨pa, LN, pc, rfl, hO, hLN, hB⟩ := hcut
  go_wp2
  go_ret
  exact ⟨pa, LN, pc, rfl, hO.out, hLN.out, hB.out⟩
end Go.Proofs.Ytcclahemmfjmgaa
