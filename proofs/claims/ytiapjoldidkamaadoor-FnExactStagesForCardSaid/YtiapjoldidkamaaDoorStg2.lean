/-
  Stages of drying: the model's contract.
-/
import Derived.Test.YtiapjoldidkamaaDoorStg
namespace Go.Proofs.YtiapjoldidkamaaDoor
open Go.ChangeShapes Go.WideShapes Go.ChangeAt Go.RowKit Go.Deep
set_option linter.unusedVariables false
set_option linter.unusedSimpArgs false
theorem stk_moved {w w' : World} {B : Nat} {x : Stk} (h : StkAt w B 0 x) (e : w'.heap[B]? = w.heap[B]?) : StkAt w' B 0 x := by
  have key : ∀ o, w'.cell? ⟨B, o, none⟩ = w.cell? ⟨B, o, none⟩ := fun o => by unfold World.cell?; simp only [e]
  exact ⟨(key _).trans h.1, (key _).trans h.2.1, (key _).trans h.2.2.1, (key _).trans h.2.2.2⟩
set_option maxHeartbeats 6400000 in
theorem specStagesFor_any (s : ByteArray) (a : Int) (b : Int) (c : Int) (v : Value) (Z : List Int) (d : Int) (hs : s.size ≤ maxLen) (w : World) (hl : Z.length ≤ 1048576) (hv : IntsAt w v Z) : Calls Tryd.prog 34 #[.agg #[.string s, .int .i64 a, .int .i64 b, .int .i64 c], v, .int .i64 d] w (RowC (stgV ⟨s, a, b, c⟩ Z d) (stgC ⟨s, a, b, c⟩ Z d) w) := by
  obtain ⟨i0, hi, hz0, hz1, hz2⟩ := info_parts infoI
  have hat := stk_box s a b c w
  obtain ⟨p, cap, rfl, hcap, hzz, hread⟩ := hv
  have hread' := Lib.hid hread
  clear hread hzz
  cases h1 : stkB ⟨s, a, b, c⟩
  · have hr := Lib.hid (stg_bad (show stgC ⟨s, a, b, c⟩ Z d = 1 by unfold stgC; rw [h1]; rfl) (by decide))
    go_enter Tryd.func34, Tryd.ntmps34
    go_wp2_with (first
      | (go_at_call 41; refine (l04One_any _ _ _ _ hs _ _ _ hat).mono ?_; rintro e w' ⟨rfl, rfl⟩)
      | (go_at_call 37; refine (l04Share_any _ _).mono ?_; rintro e w' ⟨rfl, rfl⟩)
      | (go_at_call 42; refine (l04Days_any _ _).mono ?_; rintro e w' ⟨rfl, rfl⟩))
    go_ret2
    exact rowC_nil hr.out.1 hr.out.2 ((Below.refl _ _).alloc (Nat.le_refl _) _)
  by_cases h2 : Z.length ≤ 12
  rotate_left
  · have hr := Lib.hid (stg_bad (show stgC ⟨s, a, b, c⟩ Z d = 2 by unfold stgC; rw [h1, if_pos rfl, if_neg h2]) (by decide))
    have h2' : (12 : Int) < (Z.length : Int) := by omega
    go_enter Tryd.func34, Tryd.ntmps34
    go_wp2_with (first
      | (go_at_call 41; refine (l04One_any _ _ _ _ hs _ _ _ hat).mono ?_; rintro e w' ⟨rfl, rfl⟩)
      | (go_at_call 37; refine (l04Share_any _ _).mono ?_; rintro e w' ⟨rfl, rfl⟩)
      | (go_at_call 42; refine (l04Days_any _ _).mono ?_; rintro e w' ⟨rfl, rfl⟩))
    go_ret2
    exact rowC_nil hr.out.1 hr.out.2 ((Below.refl _ _).alloc (Nat.le_refl _) _)
  have h2' : ¬ ((12 : Int) < (Z.length : Int)) := by omega
  cases h3 : inB d 0 4000
  · have hr := Lib.hid (stg_bad (show stgC ⟨s, a, b, c⟩ Z d = 2 by unfold stgC; rw [h1, h3, if_pos rfl, if_pos h2]; rfl) (by decide))
    go_enter Tryd.func34, Tryd.ntmps34
    go_wp2_with (first
      | (go_at_call 41; refine (l04One_any _ _ _ _ hs _ _ _ hat).mono ?_; rintro e w' ⟨rfl, rfl⟩)
      | (go_at_call 37; refine (l04Share_any _ _).mono ?_; rintro e w' ⟨rfl, rfl⟩)
      | (go_at_call 42; refine (l04Days_any _ _).mono ?_; rintro e w' ⟨rfl, rfl⟩))
    go_ret2
    exact rowC_nil hr.out.1 hr.out.2 ((Below.refl _ _).alloc (Nat.le_refl _) _)
  have hC : Hid (stgC ⟨s, a, b, c⟩ Z d = if humB Z = true then 0 else 2) := Lib.hid (by unfold stgC; rw [h1, h3, if_pos rfl, if_pos h2, if_pos rfl])
  obtain ⟨ha, hb, hc⟩ := stk_bd h1
  have hd := inB_iff.1 h3
  have hBl : Below w.heap.size w (w.alloc (.cells #[.string s, .int .i64 a, .int .i64 b, .int .i64 c] 29)) := (Below.refl _ _).alloc (Nat.le_refl _) _
  go_enter Tryd.func34, Tryd.ntmps34
  go_wp2_with (first
      | (go_at_call 41; refine (l04One_any _ _ _ _ hs _ _ _ hat).mono ?_; rintro e w' ⟨rfl, rfl⟩)
      | (go_at_call 37; refine (l04Share_any _ _).mono ?_; rintro e w' ⟨rfl, rfl⟩)
      | (go_at_call 42; refine (l04Days_any _ _).mono ?_; rintro e w' ⟨rfl, rfl⟩))
  have hBz : w.heap.size < (w.alloc (.cells #[.string s, .int .i64 a, .int .i64 b, .int .i64 c] 29)).heap.size := by simp
  generalize w.alloc (.cells #[.string s, .int .i64 a, .int .i64 b, .int .i64 c] 29) = W0 at hat hBl hBz ⊢
  have hBl' := Lib.hid hBl
  clear hBl
  obtain ⟨B, hB⟩ : ∃ B, B = w.heap.size := ⟨_, rfl⟩
  have hB' := Lib.hid hB
  rw [← hB] at hat hBz ⊢
  clear hB
  have hat' := Lib.hid hat
  clear hat
  go_loop [8] (fun i => ∃ k : Nat, k ≤ Z.length ∧ i = .int .i64 k ∧ Hid (hums Z k)) (fun i => Z.length - (intOf i).toNat)
  case atStart => exact ⟨0, by omega, rfl, Lib.hid (fun i hi => absurd hi (Nat.not_lt_zero _))⟩
  case round =>
    obtain ⟨k, hk, rfl, hh⟩ := hrel
    by_cases hlt : k < Z.length
    · rcases hread'.out with h | ⟨g, o, rfl, hg, hcl⟩
      · subst h; simp at hlt
      have hck := (hBl'.out.cell (p := ⟨g, o + k, none⟩) hg).trans (hcl k hlt)
      have hltI : (k : Int) < (Z.length : Int) := by omega
      have hgz := getD_get hlt
      obtain ⟨z, hz⟩ : ∃ z, z = Z[k] := ⟨_, rfl⟩
      rw [← hz] at hck hgz
      have hgz' := Lib.hid hgz
      clear hcl hz hgz
      cases hzb : inB z 0 1000
      · have hr := Lib.hid (stg_bad (show stgC ⟨s, a, b, c⟩ Z d = 2 by rw [hC.out, if_neg]; rw [hum_no hlt (by rw [hgz'.out]; exact hzb)]; decide) (by decide))
        go_wp2_with (go_at_call 37; refine (l04Share_any _ _).mono ?_; rintro e w' ⟨rfl, rfl⟩)
        go_ret2
        exact rowC_nil hr.out.1 hr.out.2 hBl'.out
      have hh2 : Hid (hums Z (k + 1)) := Lib.hid (fun i hi => by
        by_cases e : i = k
        · subst e; rw [hgz'.out]; exact hzb
        · exact hh.out i (by omega))
      go_wp2_with (go_at_call 37; refine (l04Share_any _ _).mono ?_; rintro e w' ⟨rfl, rfl⟩)
      go_round
      case rel => exact ⟨k + 1, by omega, by go_num, hh2⟩
      case measure => simp [intOf]; omega
    · have hkl : k = Z.length := by omega
      have hr := Lib.hid (stg_good (show stgC ⟨s, a, b, c⟩ Z d = 0 by rw [hC.out, if_pos (hum_yes (hkl ▸ hh.out))]))
      clear hkl hh
      have hown0 : (W0.alloc (.cells #[] 2)).ownsRow (B + 1) 2 1 (.slice (some ⟨W0.heap.size, 0, none⟩) 0 0) (stgL a b d.toNat Z 0).length ((stgL a b d.toNat Z 0).map encI) :=
        ⟨rfl, Or.inr ⟨W0.heap.size, 0, #[], rfl, hBz, heap_alloc_new _ _, Nat.le_refl 0, by unfold maxLen; omega, rfl, rfl⟩⟩
      have hat1 : StkAt (W0.alloc (.cells #[] 2)) B 0 ⟨s, a, b, c⟩ := hat'.out.below hBz ((Below.refl _ _).alloc (Nat.le_refl _) _)
      have hb1 : Hid (Below w.heap.size w (W0.alloc (.cells #[] 2))) := Lib.hid (hBl'.out.alloc hBl'.out.size _)
      have hz1' : B < (W0.alloc (.cells #[] 2)).heap.size := by simp; omega
      obtain ⟨c0, c1, c2, c3⟩ := id hat1
      simp only [Nat.zero_add] at c0 c1 c2 c3
      go_wp2
      clear c0 c1 c2 c3
      generalize W0.alloc (.cells #[] 2) = W1 at hown0 hat1 hb1 hz1' ⊢
      go_loopw [9, 10, 11] (fun u x i wr => ∃ (k : Nat) (y : Int) (L : List Int), k ≤ Z.length ∧ i = .int .i64 k ∧ x = .int .i64 y ∧ Hid (y = stgM a b d.toNat Z k) ∧ Hid (L = stgL a b d.toNat Z k) ∧ L.length = k ∧ (wr.cell? ⟨B, 0, none⟩ = some (.string s) ∧ wr.cell? ⟨B, 1, none⟩ = some (.int .i64 a) ∧ wr.cell? ⟨B, 2, none⟩ = some (.int .i64 b) ∧ wr.cell? ⟨B, 3, none⟩ = some (.int .i64 c)) ∧ B < wr.heap.size ∧ wr.ownsRow (B + 1) 2 1 u L.length (L.map encI) ∧ Hid (Below w.heap.size w wr)) (fun _ _ i _ => Z.length - (intOf i).toNat)
      case atStart => exact ⟨0, a, stgL a b d.toNat Z 0, by omega, rfl, rfl, Lib.hid rfl, Lib.hid rfl, stgL_len _ _ _ _ _, hat1, hz1', hown0, hb1⟩
      case round =>
        obtain ⟨k, y, L, hk, rfl, rfl, hy, hL, hLk, hat2, hBlt, hown, hbO⟩ := hrel
        have hyb := stgM_in (n := d.toNat) (Z := Z) hb.1 ha k
        rw [← hy.out] at hyb
        by_cases hlt : k < Z.length
        · rcases hread'.out with h | ⟨g, o, rfl, hg, hcl⟩
          · subst h; simp at hlt
          have hck := (hbO.out.cell (p := ⟨g, o + k, none⟩) hg).trans (hcl k hlt)
          have hltI : (k : Int) < (Z.length : Int) := by omega
          have hgz := getD_get hlt
          obtain ⟨z, hz⟩ : ∃ z, z = Z[k] := ⟨_, rfl⟩
          rw [← hz] at hck hgz
          have hgz' := Lib.hid hgz
          clear hcl hz hgz
          have hev := even_in z
          have hstep : Hid (dryV y (evenV z) b d.toNat = stgM a b d.toNat Z (k + 1)) := Lib.hid (by show _ = dryV (stgM a b d.toNat Z k) (evenV (Z.getD k 0)) b d.toNat; rw [← hy.out, hgz'.out])
          have hL2 : Hid (L ++ [dryV y (evenV z) b d.toNat] = stgL a b d.toNat Z (k + 1)) := Lib.hid (by rw [stgL_succ, ← hL.out, ← hstep.out])
          have cA := Lib.hid (fun W => l04AfterB_any y (evenV z) b d hyb.1 hyb.2 hev.1 (by omega) hb.1 hb.2 hd.1 hd.2 W)
          obtain ⟨y2, hy2⟩ : ∃ y2, y2 = dryV y (evenV z) b d.toNat := ⟨_, rfl⟩
          rw [← hy2] at hstep hL2 cA
          clear hy2
          have hBr : B < wr.heap.size := hBlt
          have hgr : g < wr.heap.size := Nat.lt_of_lt_of_le hg hbO.out.size
          have keep : ∀ W1 W2, (((W1.cell? ⟨B, 0, none⟩ = some (.string s) ∧ W1.cell? ⟨B, 1, none⟩ = some (.int .i64 a) ∧ W1.cell? ⟨B, 2, none⟩ = some (.int .i64 b) ∧ W1.cell? ⟨B, 3, none⟩ = some (.int .i64 c)) ∧ W1.cell? ⟨g, o + k, none⟩ = some (.int .i64 z)) ∧ Below wr.heap.size wr W1) → Below W1.heap.size W1 W2 → (((W2.cell? ⟨B, 0, none⟩ = some (.string s) ∧ W2.cell? ⟨B, 1, none⟩ = some (.int .i64 a) ∧ W2.cell? ⟨B, 2, none⟩ = some (.int .i64 b) ∧ W2.cell? ⟨B, 3, none⟩ = some (.int .i64 c)) ∧ W2.cell? ⟨g, o + k, none⟩ = some (.int .i64 z)) ∧ Below wr.heap.size wr W2) := fun W1 W2 h1 h2 => by
            obtain ⟨⟨p0, p1⟩, hb⟩ := h1
            have q0 := StkAt.below (x := ⟨s, a, b, c⟩) (o := 0) p0 (Nat.lt_of_lt_of_le hBr hb.size) h2
            have q1 := (h2.cell (p := ⟨g, o + k, none⟩) (Nat.lt_of_lt_of_le hgr hb.size)).trans p1
            exact ⟨⟨q0, q1⟩, hb.trans (h2.mono hb.size)⟩
          have keepH := Lib.hid keep
          have hS : (((wr.cell? ⟨B, 0, none⟩ = some (.string s) ∧ wr.cell? ⟨B, 1, none⟩ = some (.int .i64 a) ∧ wr.cell? ⟨B, 2, none⟩ = some (.int .i64 b) ∧ wr.cell? ⟨B, 3, none⟩ = some (.int .i64 c)) ∧ wr.cell? ⟨g, o + k, none⟩ = some (.int .i64 z)) ∧ Below wr.heap.size wr wr) := ⟨⟨hat2, hck⟩, Below.refl _ _⟩
          have hown' := Lib.hid hown
          clear keep hat2 hck hown
          go_wp2
          go_region_held3 (fun w' => (((w'.cell? ⟨B, 0, none⟩ = some (.string s) ∧ w'.cell? ⟨B, 1, none⟩ = some (.int .i64 a) ∧ w'.cell? ⟨B, 2, none⟩ = some (.int .i64 b) ∧ w'.cell? ⟨B, 3, none⟩ = some (.int .i64 c)) ∧ w'.cell? ⟨g, o + k, none⟩ = some (.int .i64 z)) ∧ Below wr.heap.size wr w'))
            (first | exact ⟨hS.1, belowN hS.2 1⟩ | exact keepH.out _ _ (by assumption) (by assumption) | assumption)
            (first | (go_at_call 38; (with_reducible refine (l04Even_any z _).mono ?_); rintro e w' ⟨rfl, hbel⟩)
                   | (go_at_call 43; (with_reducible refine (cA.out _).mono ?_); rintro e w' ⟨rfl, hbel⟩))
          rename_i hHeld'
          have hown2 := own_kept hown'.out hHeld'.2
          have hbel2 : Hid (Below w.heap.size w w') := Lib.hid (below2 hbO.out hHeld'.2)
          have hat3 := hHeld'.1.1
          have hz5 : B < w'.heap.size := Nat.lt_of_lt_of_le hBr hHeld'.2.size
          have hat4 : StkAt w' B 0 ⟨s, a, b, c⟩ := hat3
          have hat5 := Lib.hid hat4
          have hown3' := Lib.hid hown2
          clear hS keepH hHeld' hown' hat3 hat4
          go_wp2_with (at_builtin; refine wpList_append_own _ rfl _ _ 40 rfl (B + 1) 2 i0 (.int .i64 0) 1 8 Tryd.underlying40 hi hz0 hz1 hz2 rfl (by decide) _ _ _ rfl (hown2.alloc _) ⟨w'.heap.size, 0, none⟩ 1 1 [.int .i64 y2] rfl rfl ?c1A ?c2A ?c3A ?c4A ?c5A ?_)
          case c1A =>
            intro j u hj
            match j, hj with
            | 0, hj => simp at hj; subst hj; simp [Addr.add]
          case c2A => intro u hu; simp at hu; subst hu; rfl
          case c3A => unfold maxLen; omega
          case c4A => omega
          case c5A => simp; omega
          intro v' w3 hown' hgrow' _
          have hb3 : Below w.heap.size w w3 := (hbel2.out.alloc hbel2.out.size (.cells #[.int .i64 y2] 2)).grown hgrow' (by have := hbel2.out.size; simp at this ⊢; omega) (fun j hj => Nat.le_trans (Nat.le_of_eq hB'.out.symm) (Nat.le_trans (Nat.le_succ _) (hown3'.out.own_ge j hj)))
          have hBk : w3.heap[B]? = w'.heap[B]? := (hgrow'.block B (by simp; omega) (fun e => by have := hown3'.out.own_ge B e.symm; omega)).trans (Below.heap_alloc _ _ _ hz5)
          have hat6 : StkAt w3 B 0 ⟨s, a, b, c⟩ := stk_moved hat5.out hBk
          have hz6 : B < w3.heap.size := World.block_lt_of_cell? w3 _ hat6.1
          have hLl : (L ++ [y2]).length = k + 1 := by simp [hLk]
          have hown3 : w3.ownsRow (B + 1) 2 1 v' (L ++ [y2]).length ((L ++ [y2]).map encI) := by
            rw [hLl, List.map_append, List.map_singleton]; simpa [encI, hLk] using hown'
          have hb3' := Lib.hid hb3
          clear hgrow' hown' hown2 hbel2 hb3 hBk
          go_wp2
          go_roundw
          case rel => exact ⟨k + 1, y2, L ++ [y2], by omega, by go_num, rfl, hstep, hL2, hLl, hat6, hz6, hown3, hb3'⟩
          case measure => simp [intOf]; omega
        · have hkl : k = Z.length := by omega
          have hLL : Hid (stgV ⟨s, a, b, c⟩ Z d = L) := Lib.hid (by rw [hr.out.1, hL.out, hkl])
          clear hkl
          go_wp2
          go_ret2
          exact rowC_mk hLL.out hr.out.2 (Nat.le_trans (Nat.le_of_eq hB'.out.symm) (Nat.le_succ _)) hown hbO.out
end Go.Proofs.YtiapjoldidkamaaDoor
