/-
  Contracts of the model's decimal texts.
-/
import Derived.Test.YtcgmpomhklhmaaaDoorSplit
import Derived.Test.YtcgmpomhklhmaaaDoorDigMath
namespace Go.Proofs.YtcgmpomhklhmaaaDoor
open Go.ChangeShapes Go.WideShapes Go.ChangeAt Go.RowKit
set_option linter.unusedVariables false
set_option linter.unusedSimpArgs false

theorem infoB : (Tryd.prog.info? 5).map (fun i => (i.zero, i.size, i.bytes)) = some (some (.int .u8 0), 1, 1) := by kernel_rfl
def encB (c : UInt8) : Value := .int .u8 (c.toNat : Int)
/-- a row of bytes -/
theorem rowB_open {w : World} {B : Nat} {v : Value} {L : List UInt8} (h : w.ownsRow B 5 1 v L.length (L.map encB)) (hpos : 0 < L.length) :
    ∃ g cap, v = .slice (some ⟨g, 0, none⟩) L.length cap ∧ B ≤ g ∧ g < w.heap.size ∧ L.length ≤ cap ∧ cap ≤ maxLen ∧ ∀ i (hi : i < L.length), w.cell? ⟨g, i, none⟩ = some (.int .u8 (L[i].toNat : Int)) := by
  have h0 := h
  rcases h.2 with ⟨h1, h2⟩ | ⟨g, cap, cur, hv, hg, hb, hn, hcap, _, _⟩
  · omega
  · subst hv
    refine ⟨g, cap, rfl, hg, (h0.lt g rfl).2, hn, hcap, fun i hi => ?_⟩
    rw [h0.cellAt i (by omega)]
    simp [encB, List.getElem?_eq_getElem hi]
/-- what the call hands back: a text -/
def StrRet (l : List UInt8) (w : World) (e : Ending) (w' : World) : Prop := e = .returned (.string ⟨l.toArray⟩) ∧ Below w.heap.size w w'

theorem rowB_start (w : World) : (w.alloc (.cells #[] 5)).ownsRow w.heap.size 5 1 (.slice (some ⟨w.heap.size, 0, none⟩) 0 0) ([] : List UInt8).length (([] : List UInt8).map encB) :=
  ⟨rfl, Or.inr ⟨w.heap.size, 0, #[], rfl, Nat.le_refl _, heap_alloc_new _ _, Nat.le_refl 0, by unfold maxLen; omega, rfl, rfl⟩⟩


set_option maxHeartbeats 3200000 in
set_option maxRecDepth 1000000 in
theorem l01Dec_pos (N : Nat) (h0 : 0 < N) (hN : N ≤ 9223372036854775807) (w : World) :
    Calls Tryd.prog 45 #[.int .i64 (N : Int)] w (StrRet (digsN N) w) := by
  have hN0 : ((N : Int) == 0) = false := by rw [beq_eq_false_iff_ne]; omega
  have hN1 : decide ((N : Int) < 0) = false := by simp
  obtain ⟨i0, hi, hz0, hz1, hz2⟩ := info_parts infoB
  go_enter Tryd.func45, Tryd.ntmps45
  go_wp2
  go_loopw [3, 4] (fun v i wr => ∃ (u : Nat) (D : List UInt8), u ≤ N ∧ i = .int .i64 (u : Int) ∧ wr.ownsRow w.heap.size 5 1 v D.length (D.map encB) ∧ Below w.heap.size w wr ∧ D.length ≤ 19 ∧ Hid (digsN N = digsN u ++ D.reverse)) (fun _ i _ => (intOf i).natAbs)
  case atStart => exact ⟨N, [], by omega, rfl, rowB_start w, (Below.refl _ _).alloc (Nat.le_refl _) _, by simp, Lib.hid (by simp)⟩
  case round =>
    obtain ⟨u, D, huN, rfl, hown, hbel, hD, hd⟩ := hrel
    have hsz := hbel.size
    by_cases hlt : 0 < u
    · obtain ⟨c, hc⟩ : ∃ c : UInt8, c = UInt8.ofNat (48 + u % 10) := ⟨_, rfl⟩
      have hcn : (c.toNat : Int) = 48 + (u : Int) % 10 := by rw [hc, UInt8.toNat_ofNat']; omega
      have hd2 := Lib.hid (dig_step N u D hlt hd.out)
      rw [← hc] at hd2
      have hD2 : (D ++ [c]).length ≤ 19 := dig_size N (u / 10) (D ++ [c]) (by omega) hd2.out
      have hD3 : D.length + 1 ≤ 19 := by simpa using hD2
      have hv : Hid (Value.int .u8 (48 + (u : Int) % 10) = encB c) := Lib.hid (by unfold encB; rw [hcn])
      clear hc hcn hD2
      go_wp2_with (at_builtin; refine wpList_append_own _ rfl _ _ 64 rfl w.heap.size 5 i0 (.int .u8 0) 1 1 Tryd.underlying64 hi hz0 hz1 hz2 rfl (by decide) _ _ _ rfl (hown.alloc _) ⟨wr.heap.size, 0, none⟩ 1 1 [.int .u8 (48 + (u : Int) % 10)] rfl rfl ?c1A ?c2A ?c3A ?c4A ?c5A ?_)
      case c1A =>
        intro j u hj
        match j, hj with
        | 0, hj => simp at hj; subst hj; simp [Addr.add]
      case c2A => intro u hu; simp at hu; subst hu; rfl
      case c3A => unfold maxLen; omega
      case c4A => omega
      case c5A => simp; omega
      intro v' w2 hown' hgrow' _
      have hb3 := (hbel.alloc hbel.size (.cells #[.int .u8 (48 + (u : Int) % 10)] 5)).grown hgrow' (by simp; omega) (fun j hj => hown.own_ge j hj)
      have hown2 : w2.ownsRow w.heap.size 5 1 v' (D ++ [c]).length ((D ++ [c]).map encB) := by
        rw [List.map_append, List.map_singleton, ← hv.out]; simpa using hown'
      have hDl : (D ++ [c]).length ≤ 19 := by simpa using hD3
      clear hgrow' hown' hown
      go_wp2
      go_roundw
      case rel => exact ⟨u / 10, D ++ [c], by omega, by go_num, hown2, hb3, hDl, hd2⟩
      case measure => simp [intOf]; omega
    · obtain rfl : u = 0 := by omega
      rw [show ((0 : Nat) : Int) = 0 from rfl]
      have hz : D.reverse = digsN N := by
        have := hd.out; rw [digsN_zero] at this; simpa using this.symm
      obtain ⟨E, hE⟩ : ∃ E, E = D := ⟨_, rfl⟩
      have hEr : Hid (E.reverse = digsN N) := Lib.hid (by rw [hE, hz])
      have hE0 : 0 < E.length := by rw [hE, ← List.length_reverse, hz]; exact digsN_ne N h0
      have hE20 : E.length ≤ 20 := by rw [hE]; omega
      have hownE : wr.ownsRow w.heap.size 5 1 u3 E.length (E.map encB) := by rw [hE]; exact hown
      clear hz hd hE hown
      obtain ⟨wo, rfl⟩ : ∃ wo : World, wo = wr := ⟨_, rfl⟩
      obtain ⟨g, cap, rfl, hg, hgl, hcl, hcm, hcell⟩ := rowB_open hownE hE0
      have hcell' := Lib.hid hcell
      clear hcell hownE
      go_wp2
      go_loopw [6, 7] (fun v i wr => ∃ t : Nat, t ≤ E.length ∧ i = .int .i64 ((t : Int) - 1) ∧ wr.ownsRow wo.heap.size 5 1 v (E.drop t).reverse.length ((E.drop t).reverse.map encB) ∧ Below wo.heap.size wo wr) (fun _ i _ => (intOf i + 1).toNat)
      case atStart => exact ⟨E.length, Nat.le_refl _, by go_num, by simpa using rowB_start wo, (Below.refl _ _).alloc (Nat.le_refl _) _⟩
      case round =>
        obtain ⟨t, ht, rfl, ho2, hb2⟩ := hrel
        have hsz2 := hb2.size
        by_cases hlt2 : 0 < t
        · obtain ⟨j, rfl⟩ : ∃ j, t = j + 1 := ⟨t - 1, by omega⟩
          have hjl : j < E.length := by omega
          have hcj0 := (hb2.cell (p := ⟨g, j, none⟩) hgl).trans (hcell'.out j hjl)
          obtain ⟨c, hc⟩ : ∃ c : UInt8, c = E[j] := ⟨_, rfl⟩
          rw [← hc] at hcj0
          have hst := Lib.hid (rev_step E j hjl)
          rw [← hc] at hst
          clear hc
          have hlen : (E.drop (j + 1)).reverse.length ≤ 20 := by rw [List.length_reverse, List.length_drop]; omega
          have e1 : (((j + 1 : Nat) : Int) - 1) = (j : Int) := by omega
          rw [e1]
          go_wp2_with (at_builtin; refine wpList_append_own _ rfl _ _ 64 rfl wo.heap.size 5 i0 (.int .u8 0) 1 1 Tryd.underlying64 hi hz0 hz1 hz2 rfl (by decide) _ _ _ rfl (ho2.alloc _) ⟨wr.heap.size, 0, none⟩ 1 1 [.int .u8 (c.toNat : Int)] rfl rfl ?c1X ?c2X ?c3X ?c4X ?c5X ?_)
          case c1X =>
            intro j u hj
            match j, hj with
            | 0, hj => simp at hj; subst hj; simp [Addr.add]
          case c2X => intro u hu; simp at hu; subst hu; rfl
          case c3X => unfold maxLen; omega
          case c4X => omega
          case c5X => simp; omega
          intro v' wy hown' hgrow' _
          have hb3 := (hb2.alloc hb2.size (.cells #[.int .u8 (c.toNat : Int)] 5)).grown hgrow' (by simp; omega) (fun j hj => ho2.own_ge j hj)
          have hown2 : wy.ownsRow wo.heap.size 5 1 v' (E.drop j).reverse.length ((E.drop j).reverse.map encB) := by
            rw [← hst.out]; simpa [encB] using hown'
          clear hgrow' hown' ho2 hb2 hcj0
          go_wp2
          go_roundw
          case rel => exact ⟨j, by omega, by go_num, hown2, hb3⟩
          case measure => simp [intOf]
        · obtain rfl : t = 0 := by omega
          have ho3 : wr.ownsRow wo.heap.size 5 1 u6 E.reverse.length (E.reverse.map encB) := by simpa using ho2
          clear ho2
          obtain ⟨g2, cap2, rfl, hg2, hgl2, hcl2, hcm2, hcell2⟩ := rowB_open ho3 (by simpa using hE0)
          have kc := run_convert_bytes_back (P := Tryd.prog) wr 64 9 5 ⟨g2, 0, none⟩ cap2 E.reverse Tryd.underlying64 Tryd.underlying5 Tryd.underlying9 (fun j hj => by rw [add_plain, Nat.zero_add]; exact hcell2 j hj)
          rw [List.length_reverse] at kc
          obtain ⟨S, hS⟩ : ∃ S : ByteArray, S = ⟨E.reverse.toArray⟩ := ⟨_, rfl⟩
          rw [← hS] at kc
          have hS' := Lib.hid hS
          have hEr' := hEr
          clear hS
          clear hcell2 ho3
          go_wp2
          go_ret
          exact ⟨congrArg Ending.returned (congrArg Value.string (by rw [← hEr'.out]; exact hS'.out)), hbel.trans (hb2.mono hsz)⟩

set_option maxHeartbeats 3200000 in
set_option maxRecDepth 1000000 in
theorem l01Dec_neg (N : Nat) (h0 : 0 < N) (hN : N ≤ 9223372036854775808) (w : World) :
    Calls Tryd.prog 45 #[.int .i64 (-(N : Int))] w (StrRet (45 :: digsN N) w) := by
  have hN0 : (-(N : Int) == 0) = false := by rw [beq_eq_false_iff_ne]; omega
  have hN1 : decide (-(N : Int) < 0) = true := by simp; omega
  obtain ⟨i0, hi, hz0, hz1, hz2⟩ := info_parts infoB
  go_enter Tryd.func45, Tryd.ntmps45
  go_wp2
  go_loopw [3, 4] (fun v i wr => ∃ (u : Nat) (D : List UInt8), u ≤ N ∧ i = .int .i64 (-(u : Int)) ∧ wr.ownsRow w.heap.size 5 1 v D.length (D.map encB) ∧ Below w.heap.size w wr ∧ D.length ≤ 19 ∧ Hid (digsN N = digsN u ++ D.reverse)) (fun _ i _ => (intOf i).natAbs)
  case atStart => exact ⟨N, [], by omega, rfl, rowB_start w, (Below.refl _ _).alloc (Nat.le_refl _) _, by simp, Lib.hid (by simp)⟩
  case round =>
    obtain ⟨u, D, huN, rfl, hown, hbel, hD, hd⟩ := hrel
    have hsz := hbel.size
    by_cases hlt : 0 < u
    · obtain ⟨c, hc⟩ : ∃ c : UInt8, c = UInt8.ofNat (48 + u % 10) := ⟨_, rfl⟩
      have hcn : (c.toNat : Int) = 48 + (u : Int) % 10 := by rw [hc, UInt8.toNat_ofNat']; omega
      have hd2 := Lib.hid (dig_step N u D hlt hd.out)
      rw [← hc] at hd2
      have hD2 : (D ++ [c]).length ≤ 19 := dig_size N (u / 10) (D ++ [c]) (by omega) hd2.out
      have hD3 : D.length + 1 ≤ 19 := by simpa using hD2
      have hv : Hid (Value.int .u8 (48 + (u : Int) % 10) = encB c) := Lib.hid (by unfold encB; rw [hcn])
      clear hc hcn hD2
      obtain ⟨R, hR⟩ : ∃ R : Nat, R = u % 10 := ⟨_, rfl⟩
      obtain ⟨Q, hQ⟩ : ∃ Q : Nat, Q = u / 10 := ⟨_, rfl⟩
      have hR9 : R ≤ 9 := by omega
      have hQu : Q < u := by omega
      have t1 : (-(u : Int)).tmod 10 = -(R : Int) := by rw [Int.neg_tmod, hR]; rfl
      have t2 : (-(u : Int)).tdiv 10 = -(Q : Int) := by rw [Int.neg_tdiv, hQ]; rfl
      have hu1 : (-(u : Int) == 0) = false := by rw [beq_eq_false_iff_ne]; omega
      have hRi : Hid ((u : Int) % 10 = (R : Int)) := Lib.hid (by rw [hR]; rfl)
      have hQ' := Lib.hid hQ
      clear hR hQ
      rcases Nat.eq_zero_or_pos R with hR0 | hR0
      · have t1' : (-(u : Int)).tmod 10 = 0 := by rw [t1, hR0]; rfl
        have hv0 : Hid (Value.int .u8 48 = encB c) := Lib.hid (by rw [← hv.out, hRi.out, hR0]; rfl)
        clear t1 hR0 hRi hv
        go_wp2_with (at_builtin; refine wpList_append_own _ rfl _ _ 64 rfl w.heap.size 5 i0 (.int .u8 0) 1 1 Tryd.underlying64 hi hz0 hz1 hz2 rfl (by decide) _ _ _ rfl (hown.alloc _) ⟨wr.heap.size, 0, none⟩ 1 1 [.int .u8 48] rfl rfl ?c1A0 ?c2A0 ?c3A0 ?c4A0 ?c5A0 ?_)
        case c1A0 =>
          intro j u hj
          match j, hj with
          | 0, hj => simp at hj; subst hj; simp [Addr.add]
        case c2A0 => intro u hu; simp at hu; subst hu; rfl
        case c3A0 => unfold maxLen; omega
        case c4A0 => omega
        case c5A0 => simp; omega
        intro v' w2 hown' hgrow' _
        have hb3 := (hbel.alloc hbel.size (.cells #[.int .u8 48] 5)).grown hgrow' (by simp; omega) (fun j hj => hown.own_ge j hj)
        have hown2 : w2.ownsRow w.heap.size 5 1 v' (D ++ [c]).length ((D ++ [c]).map encB) := by
          rw [List.map_append, List.map_singleton, ← hv0.out]; simpa using hown'
        have hDl : (D ++ [c]).length ≤ 19 := by simpa using hD3
        clear hgrow' hown' hown
        go_wp2
        go_roundw
        case rel => exact ⟨Q, D ++ [c], by omega, by go_num, hown2, hb3, hDl, by rw [hQ'.out]; exact hd2⟩
        case measure => simp [intOf]; omega
      · have hR1 : decide (-(R : Int) < 0) = true := by simp; omega
        go_wp2_with (at_builtin; refine wpList_append_own _ rfl _ _ 64 rfl w.heap.size 5 i0 (.int .u8 0) 1 1 Tryd.underlying64 hi hz0 hz1 hz2 rfl (by decide) _ _ _ rfl (hown.alloc _) ⟨wr.heap.size, 0, none⟩ 1 1 [.int .u8 (48 + (R : Int))] rfl rfl ?c1A ?c2A ?c3A ?c4A ?c5A ?_)
        case c1A =>
          intro j u hj
          match j, hj with
          | 0, hj => simp at hj; subst hj; simp [Addr.add]
        case c2A => intro u hu; simp at hu; subst hu; rfl
        case c3A => unfold maxLen; omega
        case c4A => omega
        case c5A => simp; omega
        intro v' w2 hown' hgrow' _
        have hb3 := (hbel.alloc hbel.size (.cells #[.int .u8 (48 + (R : Int))] 5)).grown hgrow' (by simp; omega) (fun j hj => hown.own_ge j hj)
        have hown2 : w2.ownsRow w.heap.size 5 1 v' (D ++ [c]).length ((D ++ [c]).map encB) := by
          rw [List.map_append, List.map_singleton, ← hv.out, hRi.out]; simpa using hown'
        have hDl : (D ++ [c]).length ≤ 19 := by simpa using hD3
        clear hgrow' hown' hown
        go_wp2
        go_roundw
        case rel => exact ⟨Q, D ++ [c], by omega, by go_num, hown2, hb3, hDl, by rw [hQ'.out]; exact hd2⟩
        case measure => simp [intOf]; omega
    · obtain rfl : u = 0 := by omega
      rw [show (-((0 : Nat) : Int)) = 0 from rfl]
      have hz : D.reverse = digsN N := by
        have := hd.out; rw [digsN_zero] at this; simpa using this.symm
      obtain ⟨E, hE⟩ : ∃ E, E = D ++ [45] := ⟨_, rfl⟩
      have hEr : Hid (E.reverse = 45 :: digsN N) := Lib.hid (by rw [hE, List.reverse_append, hz]; rfl)
      have hE0 : 0 < E.length := by rw [hE]; simp
      have hE20 : E.length ≤ 20 := by rw [hE]; simp; omega
      clear hz hd
      go_wp2_with (at_builtin; refine wpList_append_own _ rfl _ _ 64 rfl w.heap.size 5 i0 (.int .u8 0) 1 1 Tryd.underlying64 hi hz0 hz1 hz2 rfl (by decide) _ _ _ rfl (hown.alloc _) ⟨wr.heap.size, 0, none⟩ 1 1 [.int .u8 45] rfl rfl ?c1B ?c2B ?c3B ?c4B ?c5B ?_)
      case c1B =>
        intro j u hj
        match j, hj with
        | 0, hj => simp at hj; subst hj; simp [Addr.add]
      case c2B => intro u hu; simp at hu; subst hu; rfl
      case c3B => unfold maxLen; omega
      case c4B => omega
      case c5B => simp; omega
      intro v' w2 hown' hgrow' _
      have hb3 := (hbel.alloc hbel.size (.cells #[.int .u8 45] 5)).grown hgrow' (by simp; omega) (fun j hj => hown.own_ge j hj)
      have hownE : w2.ownsRow w.heap.size 5 1 v' E.length (E.map encB) := by
        rw [hE, List.map_append, List.map_singleton]; simpa [encB] using hown'
      have hw2 := hb3.size
      clear hgrow' hown' hown hE hbel
      obtain ⟨g, cap, rfl, hg, hgl, hcl, hcm, hcell⟩ := rowB_open hownE hE0
      have hcell' := Lib.hid hcell
      clear hcell hownE
      go_wp2
      go_loopw [6, 7] (fun v i wr => ∃ t : Nat, t ≤ E.length ∧ i = .int .i64 ((t : Int) - 1) ∧ wr.ownsRow w2.heap.size 5 1 v (E.drop t).reverse.length ((E.drop t).reverse.map encB) ∧ Below w2.heap.size w2 wr) (fun _ i _ => (intOf i + 1).toNat)
      case atStart => exact ⟨E.length, Nat.le_refl _, by go_num, by simpa using rowB_start w2, (Below.refl _ _).alloc (Nat.le_refl _) _⟩
      case round =>
        obtain ⟨t, ht, rfl, ho2, hb2⟩ := hrel
        have hsz2 := hb2.size
        by_cases hlt2 : 0 < t
        · obtain ⟨j, rfl⟩ : ∃ j, t = j + 1 := ⟨t - 1, by omega⟩
          have hjl : j < E.length := by omega
          have hcj0 := (hb2.cell (p := ⟨g, j, none⟩) hgl).trans (hcell'.out j hjl)
          obtain ⟨c, hc⟩ : ∃ c : UInt8, c = E[j] := ⟨_, rfl⟩
          rw [← hc] at hcj0
          have hst := Lib.hid (rev_step E j hjl)
          rw [← hc] at hst
          clear hc
          have hlen : (E.drop (j + 1)).reverse.length ≤ 20 := by rw [List.length_reverse, List.length_drop]; omega
          have e1 : (((j + 1 : Nat) : Int) - 1) = (j : Int) := by omega
          rw [e1]
          go_wp2_with (at_builtin; refine wpList_append_own _ rfl _ _ 64 rfl w2.heap.size 5 i0 (.int .u8 0) 1 1 Tryd.underlying64 hi hz0 hz1 hz2 rfl (by decide) _ _ _ rfl (ho2.alloc _) ⟨wr.heap.size, 0, none⟩ 1 1 [.int .u8 (c.toNat : Int)] rfl rfl ?c1X ?c2X ?c3X ?c4X ?c5X ?_)
          case c1X =>
            intro j u hj
            match j, hj with
            | 0, hj => simp at hj; subst hj; simp [Addr.add]
          case c2X => intro u hu; simp at hu; subst hu; rfl
          case c3X => unfold maxLen; omega
          case c4X => omega
          case c5X => simp; omega
          intro v' wy hown' hgrow' _
          have hb3 := (hb2.alloc hb2.size (.cells #[.int .u8 (c.toNat : Int)] 5)).grown hgrow' (by simp; omega) (fun j hj => ho2.own_ge j hj)
          have hown2 : wy.ownsRow w2.heap.size 5 1 v' (E.drop j).reverse.length ((E.drop j).reverse.map encB) := by
            rw [← hst.out]; simpa [encB] using hown'
          clear hgrow' hown' ho2 hb2 hcj0
          go_wp2
          go_roundw
          case rel => exact ⟨j, by omega, by go_num, hown2, hb3⟩
          case measure => simp [intOf]
        · obtain rfl : t = 0 := by omega
          have ho3 : wr.ownsRow w2.heap.size 5 1 u6 E.reverse.length (E.reverse.map encB) := by simpa using ho2
          clear ho2
          obtain ⟨g2, cap2, rfl, hg2, hgl2, hcl2, hcm2, hcell2⟩ := rowB_open ho3 (by simpa using hE0)
          have kc := run_convert_bytes_back (P := Tryd.prog) wr 64 9 5 ⟨g2, 0, none⟩ cap2 E.reverse Tryd.underlying64 Tryd.underlying5 Tryd.underlying9 (fun j hj => by rw [add_plain, Nat.zero_add]; exact hcell2 j hj)
          rw [List.length_reverse] at kc
          obtain ⟨S, hS⟩ : ∃ S : ByteArray, S = ⟨E.reverse.toArray⟩ := ⟨_, rfl⟩
          rw [← hS] at kc
          have hS' := Lib.hid hS
          have hEr' := hEr
          clear hS
          clear hcell2 ho3
          go_wp2
          go_ret
          exact ⟨congrArg Ending.returned (congrArg Value.string (by rw [← hEr'.out]; exact hS'.out)), hb3.trans (hb2.mono hw2)⟩

theorem l01Dec_any (n : Int) (h0 : -9223372036854775808 ≤ n) (h1 : n ≤ 9223372036854775807) (w : World) :
    Calls Tryd.prog 45 #[.int .i64 n] w (StrRet (Lib.itoa n) w) := by
  rcases Int.lt_trichotomy n 0 with h | h | h
  · obtain ⟨N, rfl⟩ : ∃ N : Nat, n = -(N : Int) := ⟨n.natAbs, by omega⟩
    rw [itoa_negp N (by omega)]
    exact l01Dec_neg N (by omega) (by omega) w
  · subst h
    rw [itoa_zero]
    go_enter Tryd.func45, Tryd.ntmps45
    go_wp2
    go_ret
    exact ⟨rfl, Below.refl _ _⟩
  · obtain ⟨N, rfl⟩ := Int.eq_ofNat_of_zero_le (Int.le_of_lt h)
    rw [itoa_pos N (by omega)]
    exact l01Dec_pos N (by omega) (by omega) w
end Go.Proofs.YtcgmpomhklhmaaaDoor
