/-
  Grids of a function; the model's own copy of a grid.
-/
import Derived.Test.YtmppaimcejcoiaaLow
import Derived.Test.YtmppaimcejcoiaaMas
import Derived.Test.YtmppaimcejcoiaaSet
import Derived.OwnWalk
namespace Go.Proofs.Ytmppaimcejcoiaa
open Go.ChangeShapes Go.WideShapes Go.ChangeAt Go.RowKit Go.Deep
set_option linter.unusedVariables false
set_option linter.unusedSimpArgs false
def gridF (R C : Nat) (f : Nat → Nat → Int) : List (List Int) := (List.range R).map fun i => (List.range C).map fun k => f i k
theorem gridF_tot (R C : Nat) (f : Nat → Nat → Int) : totL (gridF R C f) = R * C := by
  unfold gridF
  induction R with
  | zero => simp [totL]
  | succ R ih => rw [List.range_succ, List.map_append, totL_append, ih, Nat.succ_mul]; simp [totL]
set_option maxHeartbeats 3200000 in
theorem l00Own_any (rg ro n c : Nat) (f : Nat → Int) (w : World) (hn : n ≤ 10) (hf : ∀ j, j < n → w.cell? ⟨rg, ro + j, none⟩ = some (.int .i64 (f j))) (hr : rg < w.heap.size) :
    Calls Try.prog 53 #[.slice (some ⟨rg, ro, none⟩) n c] w fun e w' => ∃ v, e = .returned v ∧ w'.ownsRow w.heap.size 2 1 v ((List.range n).map f).length (((List.range n).map f).map encI) ∧ Below w.heap.size w w' := by
  obtain ⟨i1, hj, hy0, hy1, hy2⟩ := info_parts infoI8
  have hf' := Lib.hid hf
  clear hf
  go_enter Try.func53, Try.ntmps53
  have hown : (w.alloc (.cells #[] 2)).ownsRow w.heap.size 2 1 (.slice (some ⟨w.heap.size, 0, none⟩) 0 0) 0 [] := ⟨rfl, Or.inr ⟨w.heap.size, 0, #[], rfl, Nat.le_refl _, heap_alloc_new _ _, Nat.le_refl 0, by unfold maxLen; omega, rfl, rfl⟩⟩
  have hown' := Lib.hid hown
  clear hown
  go_wp2_with (at_builtin; refine wpList_append_own _ rfl _ _ 36 rfl w.heap.size 2 i1 (.int .i64 0) 1 8 Try.underlying36 hj hy0 hy1 hy2 rfl (by decide) _ 0 [] rfl hown'.out ⟨rg, ro, none⟩ n c (((List.range n).map f).map encI) rfl (by simp) ?c1 ?c2 ?c3 ?c4 ?c5 ?_)
  case c1 =>
    intro j u hu
    have hadd : (⟨rg, ro, none⟩ : Addr).add j = ⟨rg, ro + j, none⟩ := by unfold Addr.add; split <;> simp_all
    rw [hadd]
    have hjn : j < n := by
      have := (List.getElem?_eq_some_iff.1 hu).1
      simpa using this
    rw [List.getElem?_map, List.getElem?_map, List.getElem?_range hjn] at hu
    have hc := hf'.out j hjn
    have hb : Below w.heap.size w (w.alloc (.cells #[] 2)) := (Below.refl _ _).alloc (Nat.le_refl _) _
    rw [(hb.cell (p := ⟨rg, ro + j, none⟩) hr), hc]
    simpa [encI] using hu
  case c2 =>
    intro u hu
    obtain ⟨z, _, rfl⟩ := List.mem_map.1 hu
    rfl
  case c3 => unfold maxLen; omega
  case c4 => omega
  case c5 => simp
  intro v9 w9 hown9 hgrow9 _
  have hB := Lib.hid (((Below.refl w.heap.size w).alloc (Nat.le_refl _) (.cells #[] 2)).grown hgrow9 (by simp) (fun j hj => by simp [Value.ownBlock] at hj; omega))
  have hO := Lib.hid hown9
  clear hown9 hgrow9
  go_wp2
  go_ret
  exact ⟨_, rfl, by have := hO.out; simpa using this, hB.out⟩
set_option linter.unusedVariables false
set_option linter.unusedSimpArgs false
theorem OwnG.place {lo hi i k : Nat} {w : World} {v : Value} {G : List (List Int)} {vs : List Value} {z : Int} (h : OwnG lo hi w v G vs) (hi' : i < G.length) (hk : k < (G[i]).length) (hz : inI z) :
    ∃ gt cap g9 n9 cap9, v = .slice (some ⟨gt, 0, none⟩) G.length cap ∧ n9 = (G[i]).length ∧ lo ≤ g9 ∧ g9 < hi ∧ ∀ w', Below w.heap.size w w' → w'.cell? ⟨gt, i, none⟩ = some (.slice (some ⟨g9, 0, none⟩) n9 cap9) ∧ w'.cell? ⟨g9, k, none⟩ = some (encI ((G[i])[k])) ∧ w'.frozen? ⟨g9, k, none⟩ = false ∧ Hid (OwnG lo hi (w'.setCell ⟨g9, k, none⟩ (.int .i64 z)) v (G.set i ((G[i]).set k z)) vs) ∧ Hid (w'.grownBy (w'.setCell ⟨g9, k, none⟩ (.int .i64 z)) (some g9)) := by
  obtain ⟨gt, cap, rfl⟩ : ∃ gt cap, v = .slice (some ⟨gt, 0, none⟩) G.length cap := by
    obtain ⟨a, cap, rfl⟩ := own_shape h.top
    rcases h.top.2 with ⟨_, h2⟩ | ⟨g, cap', cur, hv, _⟩
    · omega
    · injection hv with h1 _ _; exact ⟨g, cap, by rw [h1]⟩
  obtain ⟨g9, n9, cap9, hu, hn9, _, _, hlo, hhi, _, _⟩ := h.set hi' hk hz (by decide)
  refine ⟨gt, cap, g9, n9, cap9, rfl, hn9, hlo, hhi, fun w' hw => ?_⟩
  have h2 := h.kept hw
  obtain ⟨g9', n9', cap9', hu', hn9', q1, q2, _, _, q3, q4⟩ := h2.set hi' hk hz (by decide)
  rw [hu] at hu'
  injection hu' with hu'
  injection hu' with e1 e2 e3
  injection e1 with e1
  injection e1 with e1
  subst e1
  exact ⟨(h2.cellAt rfl hi').trans hu, q1, q2, Lib.hid q3, Lib.hid q4⟩
theorem gridF_len (R C : Nat) (f : Nat → Nat → Int) : (gridF R C f).length = R := by simp [gridF]
theorem gridF_row {R C : Nat} {f : Nat → Nat → Int} {i : Nat} (hi : i < (gridF R C f).length) : (gridF R C f)[i] = (List.range C).map fun k => f i k := by simp [gridF]
theorem gridF_set {R C : Nat} {f : Nat → Nat → Int} {i k : Nat} (hi : i < (gridF R C f).length) (z : Int) : (gridF R C f).set i (((gridF R C f)[i]).set k z) = gridF R C (fun a b => if a = i ∧ b = k then z else f a b) := by
  refine List.ext_getElem (by simp [gridF]) (fun a h1 h2 => ?_)
  rw [gridF_row h2]
  by_cases e : i = a
  · subst e
    rw [List.getElem_set_self, gridF_row hi]
    refine List.ext_getElem (by simp) (fun b h3 h4 => ?_)
    by_cases e2 : k = b
    · subst e2; simp
    · rw [List.getElem_set_ne e2]; simp; intro hb; exact absurd hb.symm e2
  · rw [List.getElem_set_ne e, gridF_row]
    refine List.map_congr_left (fun b hb => ?_)
    rw [if_neg (fun h => e h.1.symm)]
theorem gridF_congr {R C : Nat} {f f' : Nat → Nat → Int} (h : ∀ i k, i < R → k < C → f i k = f' i k) : gridF R C f = gridF R C f' := by
  unfold gridF
  exact List.map_congr_left (fun i hi => List.map_congr_left (fun k hk => h i k (List.mem_range.1 hi) (List.mem_range.1 hk)))
set_option linter.unusedVariables false
set_option linter.unusedSimpArgs false
theorem OwnG.empty (w : World) : OwnG w.heap.size (w.alloc (.cells #[] 36)).heap.size (w.alloc (.cells #[] 36)) (.slice (some ⟨w.heap.size, 0, none⟩) 0 0) [] [] := by
  refine ⟨Nat.le_refl _, rfl, ⟨rfl, Or.inr ⟨w.heap.size, 0, #[], rfl, Nat.le_refl _, heap_alloc_new _ _, Nat.le_refl 0, by unfold maxLen; omega, rfl, rfl⟩⟩, fun i u Z h => by simp at h, fun i j u u' _ h => by simp at h, fun Z h => by simp at h, fun b h => ?_, fun i u h => by simp at h⟩
  simp only [Value.ownBlock, Option.some.injEq] at h
  simp; omega
set_option linter.unusedVariables false
set_option linter.unusedSimpArgs false
set_option maxHeartbeats 6400000 in
theorem l08Own_any (g o cap R C : Nat) (rg ro rc : Nat → Nat) (h : Nat → Nat → Int) (w : World) (x : GR w g o cap R C rg ro rc h) : Calls Try.prog 38 #[.slice (some ⟨g, o, none⟩) R cap] w (RowsG (gridF R C h) w) := by
  obtain ⟨i0, hi, hz0, hz1, hz2⟩ := info_parts infoG
  have hx := Lib.hid x
  have r2 := x.R10
  have c2 := x.C10
  clear x
  go_enter Try.func38, Try.ntmps38
  go_wp2
  have hst := Lib.hid (OwnG.empty w)
  have hB0 : Below w.heap.size w (w.alloc (.cells #[] 36)) := (Below.refl _ _).alloc (Nat.le_refl _) _
  have hB5 := Lib.hid hB0
  clear hB0
  obtain ⟨LO, hLO⟩ : ∃ LO, LO = w.heap.size := ⟨_, rfl⟩
  have hLs : LO ≤ (w.alloc (.cells #[] 36)).heap.size := by rw [hLO]; simp
  rw [← hLO] at hst ⊢
  have hLO' := Lib.hid hLO
  clear hLO
  generalize w.alloc (.cells #[] 36) = w6 at hst hB5 hLs ⊢
  go_loopw [3, 4] (fun x i wr => ∃ (k : Nat) (pa : Option Addr) (LN pc : Nat) (vs : List Value), k ≤ R ∧ i = .int .i64 k ∧ x = .slice pa LN pc ∧ Hid (OwnG LO wr.heap.size wr (.slice pa LN pc) (gridF k C h) vs) ∧ Hid (LN = k) ∧ Hid (Below w.heap.size w wr) ∧ LO ≤ wr.heap.size) (fun _ i _ => R - (intOf i).toNat)
  case atStart => exact ⟨0, _, 0, 0, [], by omega, rfl, rfl, hst, Lib.hid rfl, hB5, hLs⟩
  case round =>
    obtain ⟨k, pa, LN, pc, vs, hk, rfl, rfl, hO, hLN, hB, hLs⟩ := hrel
    by_cases hlt : k < R
    · have hkI : (k : Int) < (R : Int) := by omega
      have hz := Lib.hid (hx.out.below hB.out)
      have t1 := hz.out.top k hlt
      have cO := Lib.hid (fun c hr => l00Own_any (rg k) (ro k) C c (fun j => h k j) wr c2 (fun j hj => hz.out.cel k hlt j hj) hr)
      have hrl : Hid (∀ j, j < C → inI (h k j)) := Lib.hid (fun j hj => by have := hz.out.h0 k j hlt hj; have := hz.out.h1 k j hlt hj; exact ⟨by omega, by omega⟩)
      have hrb : Hid (rg k < wr.heap.size) := Lib.hid (hz.out.rl k hlt)
      have hnx : Hid (gridF (k + 1) C h = gridF k C h ++ [(List.range C).map fun j => h k j]) := Lib.hid (by unfold gridF; rw [List.range_succ, List.map_append]; rfl)
      have hzi : Hid (∀ n ∈ (List.range C).map (fun j => h k j), inI n) := Lib.hid (fun n hn => by
        obtain ⟨j, hj, rfl⟩ := List.mem_map.1 hn
        exact hrl.out j (List.mem_range.1 hj))
      obtain ⟨Z, hZ⟩ : ∃ Z, Z = (List.range C).map fun j => h k j := ⟨_, rfl⟩
      rw [← hZ] at hnx cO hzi
      clear hZ hrl
      have hLN10 : LN ≤ 10 := by have := hLN.out; omega
      have hLN2 : Hid (LN = (gridF k C h).length) := Lib.hid (by rw [gridF_len]; exact hLN.out)
      go_wp2_with fail
      refine (cO.out _ hrb.out).mono ?_
      rintro e w7 ⟨u, rfl, own7, b7⟩
      obtain ⟨qa, qc, rfl⟩ := own_shape own7
      have O7 := Lib.hid (hO.out.kept b7)
      have own7' := Lib.hid own7
      have B7 := Lib.hid b7
      clear own7 b7 cO t1
      go_wp2_with (at_builtin; refine wpList_append_own _ rfl _ _ 22 rfl LO 36 i0 (.slice none 0 0) 1 24 Try.underlying22 hi hz0 hz1 hz2 rfl (by decide) _ LN vs rfl ((O7.out.top' hLN2.out).alloc _) ⟨w7.heap.size, 0, none⟩ 1 1 [.slice qa Z.length qc] rfl rfl ?c1 ?c2 ?c3 ?c4 ?c5 ?_)
      case c1 => exact World.news_of_block (heap_alloc_new w7 (.cells #[.slice qa Z.length qc] 36))
      case c2 => intro u hu; simp at hu; subst hu; rfl
      case c3 => unfold maxLen; omega
      case c4 => omega
      case c5 => (have := B7.out.size; simp; omega)
      intro v9 w9 hown9 hgrow9 _
      have b5 : Below wr.heap.size wr (w7.alloc (.cells #[.slice qa Z.length qc] 36)) := B7.out.alloc B7.out.size _
      have hbl : ∀ j, (Value.slice pa LN pc).ownBlock = some j → LO ≤ j := fun j hj => (O7.out.top.lt j hj).1
      have O9 := Lib.hid (hO.out.snoc (Z := Z) b5 (own7'.out.alloc _) hzi.out hgrow9 (by rw [← hLN2.out]; exact hown9) hLs (by decide))
      have B9 := Lib.hid ((hB.out.trans (b5.mono hB.out.size)).grown hgrow9 (Nat.le_trans hB.out.size b5.size) (fun j hj => by have := hbl j hj; have := hLO'.out; omega))
      have hL9 : LO ≤ w9.heap.size := Nat.le_trans hLs (Nat.le_trans b5.size hgrow9.size)
      obtain ⟨pa9, pc9, rfl⟩ := own_shape hown9
      clear hown9 hgrow9 b5 hbl
      go_wp2
      go_roundw
      case rel => exact ⟨k + 1, pa9, LN + 1, pc9, _, by omega, by go_num, rfl, Lib.hid (by rw [hnx.out]; exact O9.out), Lib.hid (by rw [hLN.out]), B9, hL9⟩
      case measure => simp [intOf]; omega
    · have hkR : k = R := by omega
      have hr : Hid (OwnG LO wr.heap.size wr (.slice pa LN pc) (gridF R C h) vs) := Lib.hid (by have := hO.out; rw [hkR] at this; exact this)
      clear hkR hO hLN
      go_wp2
      go_ret
      exact ⟨_, vs, rfl, by rw [← hLO'.out]; exact hr.out, hB.out⟩
end Go.Proofs.Ytmppaimcejcoiaa
