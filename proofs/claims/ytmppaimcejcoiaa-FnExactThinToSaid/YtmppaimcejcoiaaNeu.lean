/-
  A new grid; one place of a grid is set.
-/
import Derived.Test.YtmppaimcejcoiaaLow
import Derived.Deep.AppendLies
namespace Go.Proofs.Ytmppaimcejcoiaa
open Go.ChangeShapes Go.WideShapes Go.ChangeAt Go.RowKit Go.Deep
set_option linter.unusedVariables false
set_option linter.unusedSimpArgs false
theorem infoI8 : (Try.prog.info? 2).map (fun i => (i.zero, i.size, i.bytes)) = some (some (.int .i64 0), 1, 8) := by kernel_rfl
theorem OwnG.set {lo hi i k : Nat} {w : World} {v : Value} {G : List (List Int)} {vs : List Value} {z : Int} (h : OwnG lo hi w v G vs) (hi' : i < G.length) (hk : k < (G[i]).length) (hz : inI z) (he : (2 : Nat) ≠ 36) :
    ∃ g9 n9 cap9, vs[i]? = some (.slice (some ⟨g9, 0, none⟩) n9 cap9) ∧ n9 = (G[i]).length ∧ w.cell? ⟨g9, k, none⟩ = some (encI ((G[i])[k])) ∧ w.frozen? ⟨g9, k, none⟩ = false ∧ lo ≤ g9 ∧ g9 < hi ∧
      OwnG lo hi (w.setCell ⟨g9, k, none⟩ (.int .i64 z)) v (G.set i ((G[i]).set k z)) vs ∧ w.grownBy (w.setCell ⟨g9, k, none⟩ (.int .i64 z)) (some g9) := by
  have hl : i < vs.length := by rw [h.len]; exact hi'
  obtain ⟨u, hu⟩ : ∃ u, vs[i]? = some u := ⟨_, List.getElem?_eq_getElem hl⟩
  have hr := h.row i u (G[i]) hu (List.getElem?_eq_getElem hi')
  obtain ⟨a, cap, rfl⟩ := own_shape hr
  have ha : ∃ g9, a = some ⟨g9, 0, none⟩ := by
    rcases hr.2 with ⟨_, h2⟩ | ⟨g, cap', cur, hv, _⟩
    · omega
    · injection hv with h1 _ _; exact ⟨g, h1⟩
  obtain ⟨g9, rfl⟩ := ha
  have hst := hr.stored k (.int .i64 z)
  have hc : w.cell? ⟨g9, k, none⟩ = some (encI ((G[i])[k])) := by
    rw [hr.cellAt k (by omega), List.getElem?_map, List.getElem?_eq_getElem hk]; rfl
  refine ⟨g9, _, cap, hu, rfl, hc, hr.frozenAt k, (hr.lt g9 rfl).1, h.rowIn i _ hu g9 rfl, ⟨Nat.le_trans h.hiW hst.2.size, by rw [h.len, List.length_set], ?_, ?_, h.apart, ?_, h.topIn, h.rowIn⟩, hst.2⟩
  · rw [List.length_set]
    exact h.top.kept hst.2 (own_kind h.top hr (Ne.symm he))
  · intro j u' Z e1 e2
    by_cases hj : j = i
    · subst hj
      rw [hu] at e1
      injection e1 with e1
      subst e1
      rw [List.getElem?_set_self hi'] at e2
      injection e2 with e2
      subst e2
      rw [List.length_set, List.map_set]
      exact hst.1
    · rw [List.getElem?_set_ne (Ne.symm hj)] at e2
      exact (h.row j u' Z e1 e2).kept hst.2 (h.apart j i u' _ hj e1 hu)
  · intro Z hZ n hn
    rcases List.mem_or_eq_of_mem_set hZ with hZ | rfl
    · exact h.inn Z hZ n hn
    · rcases List.mem_or_eq_of_mem_set hn with hn | rfl
      · exact h.inn _ (List.getElem_mem hi') n hn
      · exact hz
set_option maxHeartbeats 3200000 in
theorem newGrid_any (G : List (List Int)) (C : Nat) (w : World) (hn : G.length ≤ 10) (hC : C ≤ 10) (hG : ∀ k (h : k < G.length), G[k] = List.replicate C 0) :
    Calls Try.prog 61 #[.int .i64 (G.length : Int), .int .i64 (C : Int)] w (RowsG G w) := by
  obtain ⟨i0, hi, hz0, hz1, hz2⟩ := info_parts infoG
  obtain ⟨i1, hj, hy0, hy1, hy2⟩ := info_parts infoI8
  have hG' := Lib.hid hG
  clear hG
  go_enter Try.func61, Try.ntmps61
  go_wp2_with (at_make; refine wpList_make_full _ rfl _ _ 62 rfl w.heap.size 36 i0 (.slice none 0 0) 1 Try.underlying62 hi hz0 hz1 .i64 .i64 _ _ G.length rfl rfl rfl rfl ?b1 ?b2 ?b3 ?_)
  case b1 => rw [hz2]; omega
  case b2 => unfold maxLen; omega
  case b3 => exact Nat.le_refl _
  intro w1 hown hgr
  rw [toList_madeCells_one] at hown
  have hb1 : Below w.heap.size w w1 := (Below.refl _ _).grown hgr (Nat.le_refl _) (fun k hk => by cases hk)
  have hO := OwnG.made hown
  rw [← fillG_zero] at hO
  clear hgr hown
  go_wp2
  go_loopw [11] (fun i wr => ∃ (k : Nat) (vs : List Value), k ≤ G.length ∧ i = .int .i64 k ∧ Hid (OwnG w.heap.size wr.heap.size wr (.slice (some ⟨w.heap.size, 0, none⟩) G.length G.length) (fillG G k) vs) ∧ Below w.heap.size w wr) (fun i _ => G.length - (intOf i).toNat)
  case atStart => exact ⟨0, _, by omega, rfl, Lib.hid hO, hb1⟩
  case round =>
    obtain ⟨k, vs, hk, rfl, ho, hbel⟩ := hrel
    by_cases hlt : k < G.length
    · have hfill := fillG_set G k hlt
      rw [hG'.out k hlt] at hfill
      obtain ⟨Z, hZe⟩ : ∃ Z, Z = List.replicate C (0 : Int) := ⟨_, rfl⟩
      have hZl : C = Z.length := by rw [hZe]; simp
      have hZm : List.replicate C (Value.int .i64 0) = Z.map encI := by rw [hZe, List.map_replicate]; rfl
      have hZi : ∀ n ∈ Z, inI n := fun n hn => by rw [hZe] at hn; rw [List.eq_of_mem_replicate hn]; exact ⟨by decide, by decide⟩
      rw [← hZe] at hfill
      have hfl := fillG_len G k hk
      have hvl : k < vs.length := by rw [ho.out.len, hfl]; exact hlt
      obtain ⟨old, hold⟩ : ∃ old, vs[k]? = some old := ⟨_, List.getElem?_eq_getElem hvl⟩
      have key : Hid (∀ v2 w2, w2.ownsRow wr.heap.size 2 1 v2 C (List.replicate C (.int .i64 0)) → wr.grownBy w2 none →
          w2.cell? ⟨w.heap.size, k, none⟩ = some old ∧ w2.frozen? ⟨w.heap.size, k, none⟩ = false ∧
          Hid (OwnG w.heap.size (w2.setCell ⟨w.heap.size, k, none⟩ v2).heap.size (w2.setCell ⟨w.heap.size, k, none⟩ v2) (.slice (some ⟨w.heap.size, 0, none⟩) G.length G.length) (fillG G (k + 1)) (vs.set k v2)) ∧ Hid (Below w.heap.size w (w2.setCell ⟨w.heap.size, k, none⟩ v2))) := Lib.hid (fun v2 w2 h1 hg2 => by
        have h2 : Below wr.heap.size wr w2 := (Below.refl _ _).grown hg2 (Nat.le_refl _) (fun k hk => by cases hk)
        rw [hZm, hZl] at h1
        have ho2 := ho.out.kept h2
        have htp := ho2.top
        rw [hfl] at htp
        have hst := htp.stored k v2
        refine ⟨(ho2.cellAt hfl.symm hlt).trans hold, htp.frozenAt k, Lib.hid ?_, Lib.hid ((hbel.trans (h2.mono hbel.size)).setCell (p := ⟨w.heap.size, k, none⟩) (Nat.le_refl _) _)⟩
        rw [← hfill]
        exact ho.out.put (by rw [hfl]; exact hlt) h2 h1 hZi hst.2 (by rw [hfl]; exact hst.1) hbel.size (by decide))
      have hbel' := Lib.hid hbel
      have hkI : (k : Int) < (G.length : Int) := by omega
      clear hfill hZe hZl hZm hZi hold hfl hbel ho
      go_wp2_with (at_make; refine wpList_make_full _ rfl _ _ 36 rfl wr.heap.size 2 i1 (.int .i64 0) 1 Try.underlying36 hj hy0 hy1 .i64 .i64 _ _ C rfl rfl rfl rfl ?b1 ?b2 ?b3 ?_)
      case b1 => rw [hy2]; omega
      case b2 => unfold maxLen; omega
      case b3 => exact Nat.le_refl _
      intro w2 hown2 hgr2
      rw [toList_madeCells_one] at hown2
      obtain ⟨q1, q2, q3, q4⟩ := key.out _ w2 hown2 hgr2
      clear hown2 hgr2 key
      go_wp2
      go_roundw
      case rel => exact ⟨k + 1, _, by omega, by go_num, q3, q4.out⟩
      case measure => simp [intOf]; omega
    · have hks : k = G.length := by omega
      have ho2 : Hid (OwnG w.heap.size wr.heap.size wr (.slice (some ⟨w.heap.size, 0, none⟩) G.length G.length) G vs) := Lib.hid (by have h2 := ho.out; rw [hks, fillG_all] at h2; exact h2)
      clear hks ho
      go_wp2
      go_ret
      exact ⟨_, vs, rfl, ho2.out, hbel⟩
end Go.Proofs.Ytmppaimcejcoiaa
