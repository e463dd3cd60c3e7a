/-
  Texts that stand together: CtsW.
-/
import Derived.Deep.RegionHeld3
import Derived.Outline
import Derived.Test.YtgfhjcbmilaegaaGreatDoorMg4
namespace Go.Proofs.YtgfhjcbmilaegaaGreatDoor
open Go.ChangeShapes Go.WideShapes Go.ChangeAt Go.RowKit Go.Deep
set_option linter.unusedVariables false
set_option linter.unusedSimpArgs false
set_option maxRecDepth 1000000
structure CtU where
  id : ByteArray
  days : Int
  cover : Int
  u : Value
def CtUAt (w : World) (g o : Nat) (x : CtU) : Prop := w.cell? ⟨g, o, none⟩ = some (.string x.id) ∧ w.cell? ⟨g, o + 1, none⟩ = some (.int .i64 x.days) ∧ w.cell? ⟨g, o + 2, none⟩ = some (.int .i64 x.cover) ∧ w.cell? ⟨g, o + 3, none⟩ = some x.u
theorem CtUAt.below {w w' : World} {g o : Nat} {x : CtU} (h : CtUAt w g o x) (hg : g < w.heap.size) (hb : Below w.heap.size w w') : CtUAt w' g o x :=
  ⟨(hb.cell (p := ⟨g, _, none⟩) hg).trans h.1, (hb.cell (p := ⟨g, _, none⟩) hg).trans h.2.1, (hb.cell (p := ⟨g, _, none⟩) hg).trans h.2.2.1, (hb.cell (p := ⟨g, _, none⟩) hg).trans h.2.2.2⟩
theorem ctUAt_of {w : World} {g o : Nat} {s : ByteArray} {a b : Int} {u : Value} (h : w.rangeAt g o [.string s, .int .i64 a, .int .i64 b, u]) : CtUAt w g o ⟨s, a, b, u⟩ :=
  ⟨by simpa using h 0 _ rfl, h 1 _ rfl, h 2 _ rfl, h 3 _ rfl⟩
theorem ctU_box (s : ByteArray) (a b : Int) (u : Value) (w : World) : CtUAt (w.alloc (.cells #[.string s, .int .i64 a, .int .i64 b, u] 36)) w.heap.size 0 ⟨s, a, b, u⟩ :=
  ⟨cellB (heap_alloc_new _ _) 0 _ rfl, cellB (heap_alloc_new _ _) 1 _ rfl, cellB (heap_alloc_new _ _) 2 _ rfl, cellB (heap_alloc_new _ _) 3 _ rfl⟩
theorem ctId_any (s : ByteArray) (a b : Int) (u : Value) (w : World) : Calls Tryz.prog 30 #[.agg #[.string s, .int .i64 a, .int .i64 b, u]] w fun e w' => e = .returned (.string s) ∧ Below w.heap.size w w' := by
  go_enter Tryz.func30, Tryz.ntmps30
  go_wp2
  go_ret
  exact ⟨rfl, (Below.refl _ _).alloc (Nat.le_refl _) _⟩
set_option maxHeartbeats 3200000 in
theorem ct_validList_any (v : Value) (Z : List Ct) (w : World) (hn : Z.length ≤ 1048576) (hv : CtsAt w v Z) : Calls Tryz.prog 28 #[v, .int .i64 10, .func (Fn.func 29) #[] #[], .func (Fn.func 30) #[] #[]] w fun e w' => e = .returned (.bool (ctsB Z)) ∧ Below w.heap.size w w' := by
  obtain ⟨p, cap, rfl, hcap, hids, hread⟩ := hv
  have hread' := Lib.hid hread
  have hids' := Lib.hid hids
  clear hread hids
  by_cases h16 : Z.length ≤ 10
  rotate_left
  · have hno : Hid (ctsB Z = false) := Lib.hid (by unfold ctsB; simp [h16])
    go_enter Tryz.func28, Tryz.ntmps28
    go_wp2
    go_ret
    exact ⟨ret_bool hno.out.symm, Below.refl _ _⟩
  have hfin : Hid (ctsB Z = ct_okK Z Z.length) := Lib.hid (by unfold ctsB; simp [h16])
  go_enter Tryz.func28, Tryz.ntmps28
  go_wp2
  go_loopw [17] (fun i wr => ∃ k : Nat, k ≤ Z.length ∧ i = .int .i64 k ∧ Hid (ct_okK Z k = true) ∧ Below w.heap.size w wr) (fun i _ => Z.length - (intOf i).toNat)
  case atStart => exact ⟨0, by omega, rfl, Lib.hid rfl, Below.refl _ _⟩
  case round =>
    obtain ⟨k, hk, rfl, hok, hb⟩ := hrel
    by_cases hlt : k < Z.length
    · rcases hread'.out with h | ⟨g, o, rfl, hg, hc⟩
      · subst h; simp at hlt
      obtain ⟨u, hu, hui⟩ := hc k hlt
      obtain ⟨x, hx⟩ : ∃ x, x = Z[k] := ⟨_, rfl⟩
      have hr := range_below hu hg hb
      have hi3 := hui.below hb
      rw [← hx] at hr hi3
      have hgr : g < wr.heap.size := Nat.lt_of_lt_of_le hg hb.size
      have hxs : x.id.size ≤ maxLen ∧ x.col.length ≤ maxLen := by rw [hx]; exact hids'.out _ (List.getElem_mem hlt)
      have hx' := Lib.hid hx
      obtain ⟨s, a, b, L⟩ := x
      obtain ⟨ua, uc, rfl⟩ := intsShape hi3
      have hr0 : wr.rangeAt g (o + k * 4) [.string s, .int .i64 a, .int .i64 b, .slice ua L.length uc] := hr
      clear hr
      have hr := hr0
      clear hr0
      have cV0 : ∀ W, Below wr.heap.size wr W → Calls Tryz.prog 29 #[.agg #[.string s, .int .i64 a, .int .i64 b, .slice ua L.length uc]] W fun e w' => e = .returned (.bool (ctB ⟨s, a, b, L⟩)) ∧ Below W.heap.size W w' := fun W h => isValidCt_any s a b (.slice ua L.length uc) L hxs.1 hxs.2 W (hi3.below h)
      clear hx hxs hu hui hi3
      rcases Nat.eq_zero_or_pos k with hk0 | hk0
      · subst hk0
        have hg0 : decide ((0 : Int) < ((0 : Nat) : Int)) = false := by decide
        cases hbv : ctB ⟨s, a, b, L⟩
        · rw [hbv] at cV0
          have cV := Lib.hid cV0
          have hno := Lib.hid (ctsB_no (ct_step_bad hlt hx'.out hbv) hlt)
          clear cV0 hc
          go_wp2_with (first | (refine wpList_load_mid rfl _ _ rfl g (o + 0 * 4) rfl _ _ hr Tryz.underlying36 rfl rfl ?_))
          have hP := ctU_box s a b (.slice ua L.length uc) wr
          have hbW : Below w.heap.size w (wr.alloc (.cells #[.string s, .int .i64 a, .int .i64 b, .slice ua L.length uc] 36)) := hb.alloc hb.size _
          have hBz : wr.heap.size < (wr.alloc (.cells #[.string s, .int .i64 a, .int .i64 b, .slice ua L.length uc] 36)).heap.size := by simp
          have hAl : Below wr.heap.size wr (wr.alloc (.cells #[.string s, .int .i64 a, .int .i64 b, .slice ua L.length uc] 36)) := (Below.refl _ _).alloc (Nat.le_refl _) _
          generalize wr.alloc (.cells #[.string s, .int .i64 a, .int .i64 b, .slice ua L.length uc] 36) = W0 at hP hbW hBz hAl ⊢
          have cV2 := Lib.hid (fun W (h : Below W0.heap.size W0 W) => cV.out W (hAl.trans (h.mono hAl.size)))
          clear cV
          generalize hBB : wr.heap.size = B at hP hBz ⊢
          have keep : ∀ W1 W2, ((W1.cell? ⟨B, 0, none⟩ = some (.string s) ∧ W1.cell? ⟨B, 1, none⟩ = some (.int .i64 a) ∧ W1.cell? ⟨B, 2, none⟩ = some (.int .i64 b) ∧ W1.cell? ⟨B, 3, none⟩ = some (.slice ua L.length uc)) ∧ Below W0.heap.size W0 W1) → Below W1.heap.size W1 W2 → ((W2.cell? ⟨B, 0, none⟩ = some (.string s) ∧ W2.cell? ⟨B, 1, none⟩ = some (.int .i64 a) ∧ W2.cell? ⟨B, 2, none⟩ = some (.int .i64 b) ∧ W2.cell? ⟨B, 3, none⟩ = some (.slice ua L.length uc)) ∧ Below W0.heap.size W0 W2) := fun W1 W2 h1 h2 => by
            obtain ⟨p0, hb⟩ := h1
            have q0 := CtUAt.below (x := ⟨s, a, b, .slice ua L.length uc⟩) (o := 0) p0 (Nat.lt_of_lt_of_le hBz hb.size) h2
            exact ⟨q0, hb.trans (h2.mono hb.size)⟩
          have keepH := Lib.hid keep
          have hS : ((W0.cell? ⟨B, 0, none⟩ = some (.string s) ∧ W0.cell? ⟨B, 1, none⟩ = some (.int .i64 a) ∧ W0.cell? ⟨B, 2, none⟩ = some (.int .i64 b) ∧ W0.cell? ⟨B, 3, none⟩ = some (.slice ua L.length uc)) ∧ Below W0.heap.size W0 W0) := ⟨hP, Below.refl _ _⟩
          clear keep hP hAl hBB
          refine wp_region_noPanic ?_
          refine wp_region_held_drew (S := (fun w' => ((w'.cell? ⟨B, 0, none⟩ = some (.string s) ∧ w'.cell? ⟨B, 1, none⟩ = some (.int .i64 a) ∧ w'.cell? ⟨B, 2, none⟩ = some (.int .i64 b) ∧ w'.cell? ⟨B, 3, none⟩ = some (.slice ua L.length uc)) ∧ Below W0.heap.size W0 w'))) (by kernel_rfl) ?_ (fun hHeld => ?_)
          · exact ⟨hS.1, belowN hS.2 1⟩
          refine wpAnyH_take (i := 0) (oi := ⟨some 22, _, _, _, _, _⟩) (v := ?vvz1) rfl (by kernel_rfl) (by kernel_rfl) (by kernel_rfl) (fun _ _ _ h => h) (Or.inl ⟨by rfl, ?hyz1⟩) (by assumption) ?restz1
          case hyz1 => (intro w hSw; (try dsimp only at hSw); go_simp; try with_reducible rfl)
          try simp only [Act.put, List.setIfInBounds_toArray, List.set_cons_zero, List.set_cons_succ]
          refine wpAnyH_take (i := 1) (oi := ⟨some 23, _, _, _, _, _⟩) (v := ?vvz2) rfl (by kernel_rfl) (by kernel_rfl) (by kernel_rfl) (fun _ _ _ h => h) (Or.inl ⟨by rfl, ?hyz2⟩) (by assumption) ?restz2
          case hyz2 => (intro w hSw; (try dsimp only at hSw); go_simp; try with_reducible rfl)
          try simp only [Act.put, List.setIfInBounds_toArray, List.set_cons_zero, List.set_cons_succ]
          refine wpAnyH_ready (rs := [2]) (by kernel_rfl) (by simp) ?_
          refine AllReadyH.cons (o := ⟨some 24, _, _, _, _, _⟩) rfl (fun K hK => ?_) AllReadyH.nil
          go_simp
          (go_at_call 29; (with_reducible refine (cV2.out _ (And.right (by assumption))).mono ?_); rintro e w' ⟨rfl, hbel⟩)
          try go_wp2_with fail
          refine hK.out _ _ ?_ (fun hHeld2 => ?_)
          · exact keepH.out _ _ (by assumption) (by assumption)
          clear hK K hHeld
          have hHeld := hHeld2
          clear hHeld2
          try simp only [Act.put, List.setIfInBounds_toArray, List.set_cons_zero, List.set_cons_succ]
          refine wpAnyH_take (i := 3) (oi := ⟨some 25, _, _, _, _, _⟩) (v := ?vvz3) rfl (by kernel_rfl) (by kernel_rfl) (by kernel_rfl) (fun _ _ _ h => h) (Or.inl ⟨by rfl, ?hyz3⟩) (by assumption) ?restz3
          case hyz3 => (intro w hSw; (try dsimp only at hSw); go_simp; try with_reducible rfl)
          try simp only [Act.put, List.setIfInBounds_toArray, List.set_cons_zero, List.set_cons_succ]
          refine wpAnyH_take (i := 4) (oi := ⟨some 26, _, _, _, _, _⟩) (v := ?vvz4) rfl (by kernel_rfl) (by kernel_rfl) (by kernel_rfl) (fun _ _ _ h => h) (Or.inl ⟨by rfl, ?hyz4⟩) (by assumption) ?restz4
          case hyz4 => (intro w hSw; (try dsimp only at hSw); go_simp; try with_reducible rfl)
          try simp only [Act.put, List.setIfInBounds_toArray, List.set_cons_zero, List.set_cons_succ]
          refine wpAnyH_take (i := 5) (oi := ⟨some 27, _, _, _, _, _⟩) (v := undef) rfl (by kernel_rfl) (by kernel_rfl) (by kernel_rfl) (fun _ _ _ h => h) (Or.inr ⟨by rfl, rfl⟩) (by assumption) ?_
          try simp only [Act.put, List.setIfInBounds_toArray, List.set_cons_zero, List.set_cons_succ]
          refine wpAnyH_take (i := 6) (oi := ⟨some 28, _, _, _, _, _⟩) (v := undef) rfl (by kernel_rfl) (by kernel_rfl) (by kernel_rfl) (fun _ _ _ h => h) (Or.inr ⟨by rfl, rfl⟩) (by assumption) ?_
          try simp only [Act.put, List.setIfInBounds_toArray, List.set_cons_zero, List.set_cons_succ]
          refine wpAnyH_take (i := 7) (oi := ⟨some 29, _, _, _, _, _⟩) (v := undef) rfl (by kernel_rfl) (by kernel_rfl) (by kernel_rfl) (fun _ _ _ h => h) (Or.inr ⟨by rfl, rfl⟩) (by assumption) ?_
          try simp only [Act.put, List.setIfInBounds_toArray, List.set_cons_zero, List.set_cons_succ]
          refine wpAnyH_take (i := 8) (oi := ⟨some 30, _, _, _, _, _⟩) (v := undef) rfl (by kernel_rfl) (by kernel_rfl) (by kernel_rfl) (fun _ _ _ h => h) (Or.inr ⟨by rfl, rfl⟩) (by assumption) ?_
          try simp only [Act.put, List.setIfInBounds_toArray, List.set_cons_zero, List.set_cons_succ]
          refine wpAnyH_take (i := 9) (oi := ⟨some 31, _, _, _, _, _⟩) (v := undef) rfl (by kernel_rfl) (by kernel_rfl) (by kernel_rfl) (fun _ _ _ h => h) (Or.inr ⟨by rfl, rfl⟩) (by assumption) ?_
          try simp only [Act.put, List.setIfInBounds_toArray, List.set_cons_zero, List.set_cons_succ]
          refine wpAnyH_take (i := 10) (oi := ⟨some 32, _, _, _, _, _⟩) (v := undef) rfl (by kernel_rfl) (by kernel_rfl) (by kernel_rfl) (fun _ _ _ h => h) (Or.inr ⟨by rfl, rfl⟩) (by assumption) ?_
          try simp only [Act.put, List.setIfInBounds_toArray, List.set_cons_zero, List.set_cons_succ]
          refine wpAnyH_take (i := 11) (oi := ⟨some 33, _, _, _, _, _⟩) (v := undef) rfl (by kernel_rfl) (by kernel_rfl) (by kernel_rfl) (fun _ _ _ h => h) (Or.inr ⟨by rfl, rfl⟩) (by assumption) ?_
          try simp only [Act.put, List.setIfInBounds_toArray, List.set_cons_zero, List.set_cons_succ]
          refine wpAnyH_take (i := 15) (oi := ⟨some 37, _, _, _, _, _⟩) (v := undef) rfl (by kernel_rfl) (by kernel_rfl) (by kernel_rfl) (fun _ _ _ h => h) (Or.inr ⟨by rfl, rfl⟩) (by assumption) ?_
          try simp only [Act.put, List.setIfInBounds_toArray, List.set_cons_zero, List.set_cons_succ]
          refine wpAnyH_take (i := 16) (oi := ⟨some 38, _, _, _, _, _⟩) (v := undef) rfl (by kernel_rfl) (by kernel_rfl) (by kernel_rfl) (fun _ _ _ h => h) (Or.inr ⟨by rfl, rfl⟩) (by assumption) ?_
          try simp only [Act.put, List.setIfInBounds_toArray, List.set_cons_zero, List.set_cons_succ]
          refine wpAnyH_take (i := 12) (oi := ⟨some 34, _, _, _, _, _⟩) (v := undef) rfl (by kernel_rfl) (by kernel_rfl) (by kernel_rfl) (fun _ _ _ h => h) (Or.inr ⟨by rfl, rfl⟩) (by assumption) ?_
          try simp only [Act.put, List.setIfInBounds_toArray, List.set_cons_zero, List.set_cons_succ]
          refine wpAnyH_take (i := 13) (oi := ⟨some 35, _, _, _, _, _⟩) (v := undef) rfl (by kernel_rfl) (by kernel_rfl) (by kernel_rfl) (fun _ _ _ h => h) (Or.inr ⟨by rfl, rfl⟩) (by assumption) ?_
          try simp only [Act.put, List.setIfInBounds_toArray, List.set_cons_zero, List.set_cons_succ]
          refine wpAnyH_take (i := 14) (oi := ⟨some 36, _, _, _, _, _⟩) (v := undef) rfl (by kernel_rfl) (by kernel_rfl) (by kernel_rfl) (fun _ _ _ h => h) (Or.inr ⟨by rfl, rfl⟩) (by assumption) ?_
          try simp only [Act.put, List.setIfInBounds_toArray, List.set_cons_zero, List.set_cons_succ]
          refine wpAnyH_take (i := 17) (oi := ⟨some 39, _, _, _, _, _⟩) (v := undef) rfl (by kernel_rfl) (by kernel_rfl) (by kernel_rfl) (fun _ _ _ h => h) (Or.inr ⟨by rfl, rfl⟩) (by assumption) ?_
          try simp only [Act.put, List.setIfInBounds_toArray, List.set_cons_zero, List.set_cons_succ]
          refine wpAnyH_take (i := 18) (oi := ⟨some 40, _, _, _, _, _⟩) (v := undef) rfl (by kernel_rfl) (by kernel_rfl) (by kernel_rfl) (fun _ _ _ h => h) (Or.inr ⟨by rfl, rfl⟩) (by assumption) ?_
          try simp only [Act.put, List.setIfInBounds_toArray, List.set_cons_zero, List.set_cons_succ]
          refine wpAnyH_take (i := 19) (oi := ⟨some 41, _, _, _, _, _⟩) (v := undef) rfl (by kernel_rfl) (by kernel_rfl) (by kernel_rfl) (fun _ _ _ h => h) (Or.inr ⟨by rfl, rfl⟩) (by assumption) ?_
          try simp only [Act.put, List.setIfInBounds_toArray, List.set_cons_zero, List.set_cons_succ]
          refine wpAnyH_take (i := 20) (oi := ⟨some 42, _, _, _, _, _⟩) (v := ?vvz5) rfl (by kernel_rfl) (by kernel_rfl) (by kernel_rfl) (fun _ _ _ h => h) (Or.inl ⟨by rfl, ?hyz5⟩) (by assumption) ?restz5
          case hyz5 => (intro w hSw; (try dsimp only at hSw); go_simp; try with_reducible rfl)
          try simp only [Act.put, List.setIfInBounds_toArray, List.set_cons_zero, List.set_cons_succ]
          refine wpAnyH_done (by kernel_rfl) ?_ _
          refine NoPanic.normal ?_
          clear hS keepH
          have hb2 := below2 hbW hHeld.2
          go_wp2
          go_ret
          exact ⟨ret_bool hno.out.symm, hb2⟩
        · rw [hbv] at cV0
          have cV := Lib.hid cV0
          have hst := Lib.hid (ct_okK_yes hok.out (ct_step_first hlt hx'.out hbv))
          clear cV0 hc
          go_wp2_with (first | (refine wpList_load_mid rfl _ _ rfl g (o + 0 * 4) rfl _ _ hr Tryz.underlying36 rfl rfl ?_))
          have hP := ctU_box s a b (.slice ua L.length uc) wr
          have hbW : Below w.heap.size w (wr.alloc (.cells #[.string s, .int .i64 a, .int .i64 b, .slice ua L.length uc] 36)) := hb.alloc hb.size _
          have hBz : wr.heap.size < (wr.alloc (.cells #[.string s, .int .i64 a, .int .i64 b, .slice ua L.length uc] 36)).heap.size := by simp
          have hAl : Below wr.heap.size wr (wr.alloc (.cells #[.string s, .int .i64 a, .int .i64 b, .slice ua L.length uc] 36)) := (Below.refl _ _).alloc (Nat.le_refl _) _
          generalize wr.alloc (.cells #[.string s, .int .i64 a, .int .i64 b, .slice ua L.length uc] 36) = W0 at hP hbW hBz hAl ⊢
          have cV2 := Lib.hid (fun W (h : Below W0.heap.size W0 W) => cV.out W (hAl.trans (h.mono hAl.size)))
          clear cV
          generalize hBB : wr.heap.size = B at hP hBz ⊢
          have keep : ∀ W1 W2, ((W1.cell? ⟨B, 0, none⟩ = some (.string s) ∧ W1.cell? ⟨B, 1, none⟩ = some (.int .i64 a) ∧ W1.cell? ⟨B, 2, none⟩ = some (.int .i64 b) ∧ W1.cell? ⟨B, 3, none⟩ = some (.slice ua L.length uc)) ∧ Below W0.heap.size W0 W1) → Below W1.heap.size W1 W2 → ((W2.cell? ⟨B, 0, none⟩ = some (.string s) ∧ W2.cell? ⟨B, 1, none⟩ = some (.int .i64 a) ∧ W2.cell? ⟨B, 2, none⟩ = some (.int .i64 b) ∧ W2.cell? ⟨B, 3, none⟩ = some (.slice ua L.length uc)) ∧ Below W0.heap.size W0 W2) := fun W1 W2 h1 h2 => by
            obtain ⟨p0, hb⟩ := h1
            have q0 := CtUAt.below (x := ⟨s, a, b, .slice ua L.length uc⟩) (o := 0) p0 (Nat.lt_of_lt_of_le hBz hb.size) h2
            exact ⟨q0, hb.trans (h2.mono hb.size)⟩
          have keepH := Lib.hid keep
          have hS : ((W0.cell? ⟨B, 0, none⟩ = some (.string s) ∧ W0.cell? ⟨B, 1, none⟩ = some (.int .i64 a) ∧ W0.cell? ⟨B, 2, none⟩ = some (.int .i64 b) ∧ W0.cell? ⟨B, 3, none⟩ = some (.slice ua L.length uc)) ∧ Below W0.heap.size W0 W0) := ⟨hP, Below.refl _ _⟩
          clear keep hP hAl hBB
          refine wp_region_noPanic ?_
          refine wp_region_held_drew (S := (fun w' => ((w'.cell? ⟨B, 0, none⟩ = some (.string s) ∧ w'.cell? ⟨B, 1, none⟩ = some (.int .i64 a) ∧ w'.cell? ⟨B, 2, none⟩ = some (.int .i64 b) ∧ w'.cell? ⟨B, 3, none⟩ = some (.slice ua L.length uc)) ∧ Below W0.heap.size W0 w'))) (by kernel_rfl) ?_ (fun hHeld => ?_)
          · exact ⟨hS.1, belowN hS.2 1⟩
          refine wpAnyH_take (i := 0) (oi := ⟨some 22, _, _, _, _, _⟩) (v := ?vvz6) rfl (by kernel_rfl) (by kernel_rfl) (by kernel_rfl) (fun _ _ _ h => h) (Or.inl ⟨by rfl, ?hyz6⟩) (by assumption) ?restz6
          case hyz6 => (intro w hSw; (try dsimp only at hSw); go_simp; try with_reducible rfl)
          try simp only [Act.put, List.setIfInBounds_toArray, List.set_cons_zero, List.set_cons_succ]
          refine wpAnyH_take (i := 1) (oi := ⟨some 23, _, _, _, _, _⟩) (v := ?vvz7) rfl (by kernel_rfl) (by kernel_rfl) (by kernel_rfl) (fun _ _ _ h => h) (Or.inl ⟨by rfl, ?hyz7⟩) (by assumption) ?restz7
          case hyz7 => (intro w hSw; (try dsimp only at hSw); go_simp; try with_reducible rfl)
          try simp only [Act.put, List.setIfInBounds_toArray, List.set_cons_zero, List.set_cons_succ]
          refine wpAnyH_ready (rs := [2]) (by kernel_rfl) (by simp) ?_
          refine AllReadyH.cons (o := ⟨some 24, _, _, _, _, _⟩) rfl (fun K hK => ?_) AllReadyH.nil
          go_simp
          (go_at_call 29; (with_reducible refine (cV2.out _ (And.right (by assumption))).mono ?_); rintro e w' ⟨rfl, hbel⟩)
          try go_wp2_with fail
          refine hK.out _ _ ?_ (fun hHeld2 => ?_)
          · exact keepH.out _ _ (by assumption) (by assumption)
          clear hK K hHeld
          have hHeld := hHeld2
          clear hHeld2
          try simp only [Act.put, List.setIfInBounds_toArray, List.set_cons_zero, List.set_cons_succ]
          refine wpAnyH_take (i := 3) (oi := ⟨some 25, _, _, _, _, _⟩) (v := ?vvz8) rfl (by kernel_rfl) (by kernel_rfl) (by kernel_rfl) (fun _ _ _ h => h) (Or.inl ⟨by rfl, ?hyz8⟩) (by assumption) ?restz8
          case hyz8 => (intro w hSw; (try dsimp only at hSw); go_simp; try with_reducible rfl)
          try simp only [Act.put, List.setIfInBounds_toArray, List.set_cons_zero, List.set_cons_succ]
          refine wpAnyH_take (i := 4) (oi := ⟨some 26, _, _, _, _, _⟩) (v := ?vvz9) rfl (by kernel_rfl) (by kernel_rfl) (by kernel_rfl) (fun _ _ _ h => h) (Or.inl ⟨by rfl, ?hyz9⟩) (by assumption) ?restz9
          case hyz9 => (intro w hSw; (try dsimp only at hSw); go_simp; try with_reducible rfl)
          try simp only [Act.put, List.setIfInBounds_toArray, List.set_cons_zero, List.set_cons_succ]
          refine wpAnyH_take (i := 5) (oi := ⟨some 27, _, _, _, _, _⟩) (v := ?vvz10) rfl (by kernel_rfl) (by kernel_rfl) (by kernel_rfl) (fun _ _ _ h => h) (Or.inl ⟨by rfl, ?hyz10⟩) (by assumption) ?restz10
          case hyz10 => (intro w hSw; (try dsimp only at hSw); go_simp; try with_reducible rfl)
          try simp only [Act.put, List.setIfInBounds_toArray, List.set_cons_zero, List.set_cons_succ]
          refine wpAnyH_take (i := 6) (oi := ⟨some 28, _, _, _, _, _⟩) (v := ?vvz11) rfl (by kernel_rfl) (by kernel_rfl) (by kernel_rfl) (fun _ _ _ h => h) (Or.inl ⟨by rfl, ?hyz11⟩) (by assumption) ?restz11
          case hyz11 => (intro w hSw; (try dsimp only at hSw); go_simp; try with_reducible rfl)
          try simp only [Act.put, List.setIfInBounds_toArray, List.set_cons_zero, List.set_cons_succ]
          refine wpAnyH_take (i := 7) (oi := ⟨some 29, _, _, _, _, _⟩) (v := ?vvz12) rfl (by kernel_rfl) (by kernel_rfl) (by kernel_rfl) (fun _ _ _ h => h) (Or.inl ⟨by rfl, ?hyz12⟩) (by assumption) ?restz12
          case hyz12 => (intro w hSw; (try dsimp only at hSw); go_simp; try with_reducible rfl)
          try simp only [Act.put, List.setIfInBounds_toArray, List.set_cons_zero, List.set_cons_succ]
          refine wpAnyH_take (i := 8) (oi := ⟨some 30, _, _, _, _, _⟩) (v := undef) rfl (by kernel_rfl) (by kernel_rfl) (by kernel_rfl) (fun _ _ _ h => h) (Or.inr ⟨by rfl, rfl⟩) (by assumption) ?_
          try simp only [Act.put, List.setIfInBounds_toArray, List.set_cons_zero, List.set_cons_succ]
          refine wpAnyH_take (i := 9) (oi := ⟨some 31, _, _, _, _, _⟩) (v := undef) rfl (by kernel_rfl) (by kernel_rfl) (by kernel_rfl) (fun _ _ _ h => h) (Or.inr ⟨by rfl, rfl⟩) (by assumption) ?_
          try simp only [Act.put, List.setIfInBounds_toArray, List.set_cons_zero, List.set_cons_succ]
          refine wpAnyH_take (i := 10) (oi := ⟨some 32, _, _, _, _, _⟩) (v := undef) rfl (by kernel_rfl) (by kernel_rfl) (by kernel_rfl) (fun _ _ _ h => h) (Or.inr ⟨by rfl, rfl⟩) (by assumption) ?_
          try simp only [Act.put, List.setIfInBounds_toArray, List.set_cons_zero, List.set_cons_succ]
          refine wpAnyH_take (i := 11) (oi := ⟨some 33, _, _, _, _, _⟩) (v := undef) rfl (by kernel_rfl) (by kernel_rfl) (by kernel_rfl) (fun _ _ _ h => h) (Or.inr ⟨by rfl, rfl⟩) (by assumption) ?_
          try simp only [Act.put, List.setIfInBounds_toArray, List.set_cons_zero, List.set_cons_succ]
          refine wpAnyH_take (i := 15) (oi := ⟨some 37, _, _, _, _, _⟩) (v := undef) rfl (by kernel_rfl) (by kernel_rfl) (by kernel_rfl) (fun _ _ _ h => h) (Or.inr ⟨by rfl, rfl⟩) (by assumption) ?_
          try simp only [Act.put, List.setIfInBounds_toArray, List.set_cons_zero, List.set_cons_succ]
          refine wpAnyH_take (i := 16) (oi := ⟨some 38, _, _, _, _, _⟩) (v := undef) rfl (by kernel_rfl) (by kernel_rfl) (by kernel_rfl) (fun _ _ _ h => h) (Or.inr ⟨by rfl, rfl⟩) (by assumption) ?_
          try simp only [Act.put, List.setIfInBounds_toArray, List.set_cons_zero, List.set_cons_succ]
          refine wpAnyH_take (i := 12) (oi := ⟨some 34, _, _, _, _, _⟩) (v := undef) rfl (by kernel_rfl) (by kernel_rfl) (by kernel_rfl) (fun _ _ _ h => h) (Or.inr ⟨by rfl, rfl⟩) (by assumption) ?_
          try simp only [Act.put, List.setIfInBounds_toArray, List.set_cons_zero, List.set_cons_succ]
          refine wpAnyH_take (i := 13) (oi := ⟨some 35, _, _, _, _, _⟩) (v := undef) rfl (by kernel_rfl) (by kernel_rfl) (by kernel_rfl) (fun _ _ _ h => h) (Or.inr ⟨by rfl, rfl⟩) (by assumption) ?_
          try simp only [Act.put, List.setIfInBounds_toArray, List.set_cons_zero, List.set_cons_succ]
          refine wpAnyH_take (i := 14) (oi := ⟨some 36, _, _, _, _, _⟩) (v := undef) rfl (by kernel_rfl) (by kernel_rfl) (by kernel_rfl) (fun _ _ _ h => h) (Or.inr ⟨by rfl, rfl⟩) (by assumption) ?_
          try simp only [Act.put, List.setIfInBounds_toArray, List.set_cons_zero, List.set_cons_succ]
          refine wpAnyH_take (i := 17) (oi := ⟨some 39, _, _, _, _, _⟩) (v := undef) rfl (by kernel_rfl) (by kernel_rfl) (by kernel_rfl) (fun _ _ _ h => h) (Or.inr ⟨by rfl, rfl⟩) (by assumption) ?_
          try simp only [Act.put, List.setIfInBounds_toArray, List.set_cons_zero, List.set_cons_succ]
          refine wpAnyH_take (i := 18) (oi := ⟨some 40, _, _, _, _, _⟩) (v := undef) rfl (by kernel_rfl) (by kernel_rfl) (by kernel_rfl) (fun _ _ _ h => h) (Or.inr ⟨by rfl, rfl⟩) (by assumption) ?_
          try simp only [Act.put, List.setIfInBounds_toArray, List.set_cons_zero, List.set_cons_succ]
          refine wpAnyH_take (i := 19) (oi := ⟨some 41, _, _, _, _, _⟩) (v := ?vvz13) rfl (by kernel_rfl) (by kernel_rfl) (by kernel_rfl) (fun _ _ _ h => h) (Or.inl ⟨by rfl, ?hyz13⟩) (by assumption) ?restz13
          case hyz13 => (intro w hSw; (try dsimp only at hSw); go_simp; try with_reducible rfl)
          try simp only [Act.put, List.setIfInBounds_toArray, List.set_cons_zero, List.set_cons_succ]
          refine wpAnyH_take (i := 20) (oi := ⟨some 42, _, _, _, _, _⟩) (v := ?vvz14) rfl (by kernel_rfl) (by kernel_rfl) (by kernel_rfl) (fun _ _ _ h => h) (Or.inl ⟨by rfl, ?hyz14⟩) (by assumption) ?restz14
          case hyz14 => (intro w hSw; (try dsimp only at hSw); go_simp; try with_reducible rfl)
          try simp only [Act.put, List.setIfInBounds_toArray, List.set_cons_zero, List.set_cons_succ]
          refine wpAnyH_done (by kernel_rfl) ?_ _
          refine NoPanic.normal ?_
          clear hS keepH
          have hb2 := below2 hbW hHeld.2
          clear hHeld
          go_wp2
          go_roundw
          case rel => exact ⟨1, by omega, by go_num, hst, hb2⟩
          case measure => simp [intOf]; omega
      · obtain ⟨q, rfl⟩ : ∃ q, k = q + 1 := ⟨k - 1, by omega⟩
        obtain ⟨y, hy⟩ : ∃ y, y = Z[q] := ⟨_, rfl⟩
        obtain ⟨uy, huy, _⟩ := hc q (by omega)
        have hr2 := range_below huy hg hb
        rw [← hy] at hr2
        have hstep : ∀ bv, ctB ⟨s, a, b, L⟩ = bv → ct_stepOK Z (q + 1) = (bv && Op.bytesLess y.id.toList s.toList) := fun bv h => by
          cases bv
          · exact ct_step_bad hlt hx'.out h
          · rw [ct_step_next hlt hx'.out hy h]; rfl
        have e1 : IntKind.i64.wrap ((q : Int) + 1 - 1) = (q : Int) := by rw [show (q : Int) + 1 - 1 = q by omega]; exact IntWalk.i64_in _ (by omega)
        have e0 : IntKind.i64.wrap (q : Int) = (q : Int) := IntWalk.i64_in _ (by omega)
        have hg0 : decide ((0 : Int) < (q : Int) + 1) = true := by simp <;> omega
        have hq1 : (q : Int) < (Z.length : Int) := by omega
        obtain ⟨sy, ay, by', Ly⟩ := y
        simp only at hstep
        clear huy hy hc
        cases hbv : ctB ⟨s, a, b, L⟩ <;> cases hl : Op.bytesLess sy.toList s.toList
        case true.true =>
          have hst := Lib.hid (ct_okK_yes hok.out (by rw [hstep _ hbv, hl]; rfl))
          rw [hbv] at cV0
          have cV := Lib.hid cV0
          clear hstep cV0
          go_wp2_with (first | (refine wpList_load_mid rfl _ _ rfl g (o + (q + 1) * 4) rfl _ _ hr Tryz.underlying36 rfl rfl ?_))
          have hP := ctU_box s a b (.slice ua L.length uc) wr
          have hbW : Below w.heap.size w (wr.alloc (.cells #[.string s, .int .i64 a, .int .i64 b, .slice ua L.length uc] 36)) := hb.alloc hb.size _
          have hBz : wr.heap.size < (wr.alloc (.cells #[.string s, .int .i64 a, .int .i64 b, .slice ua L.length uc] 36)).heap.size := by simp
          have hAl : Below wr.heap.size wr (wr.alloc (.cells #[.string s, .int .i64 a, .int .i64 b, .slice ua L.length uc] 36)) := (Below.refl _ _).alloc (Nat.le_refl _) _
          generalize wr.alloc (.cells #[.string s, .int .i64 a, .int .i64 b, .slice ua L.length uc] 36) = W0 at hP hbW hBz hAl ⊢
          have cV2 := Lib.hid (fun W (h : Below W0.heap.size W0 W) => cV.out W (hAl.trans (h.mono hAl.size)))
          clear cV
          generalize hBB : wr.heap.size = B at hP hBz ⊢
          have hgW : g < W0.heap.size := Nat.lt_of_lt_of_le hgr hAl.size
          have hY : CtUAt W0 g (o + q * 4) ⟨sy, ay, by', uy⟩ := ctUAt_of (range_below hr2 hgr hAl)
          have keep : ∀ W1 W2, (((W1.cell? ⟨B, 0, none⟩ = some (.string s) ∧ W1.cell? ⟨B, 1, none⟩ = some (.int .i64 a) ∧ W1.cell? ⟨B, 2, none⟩ = some (.int .i64 b) ∧ W1.cell? ⟨B, 3, none⟩ = some (.slice ua L.length uc)) ∧ (W1.cell? ⟨g, o + q * 4, none⟩ = some (.string sy) ∧ W1.cell? ⟨g, o + q * 4 + 1, none⟩ = some (.int .i64 ay) ∧ W1.cell? ⟨g, o + q * 4 + 2, none⟩ = some (.int .i64 by') ∧ W1.cell? ⟨g, o + q * 4 + 3, none⟩ = some uy)) ∧ Below W0.heap.size W0 W1) → Below W1.heap.size W1 W2 → (((W2.cell? ⟨B, 0, none⟩ = some (.string s) ∧ W2.cell? ⟨B, 1, none⟩ = some (.int .i64 a) ∧ W2.cell? ⟨B, 2, none⟩ = some (.int .i64 b) ∧ W2.cell? ⟨B, 3, none⟩ = some (.slice ua L.length uc)) ∧ (W2.cell? ⟨g, o + q * 4, none⟩ = some (.string sy) ∧ W2.cell? ⟨g, o + q * 4 + 1, none⟩ = some (.int .i64 ay) ∧ W2.cell? ⟨g, o + q * 4 + 2, none⟩ = some (.int .i64 by') ∧ W2.cell? ⟨g, o + q * 4 + 3, none⟩ = some uy)) ∧ Below W0.heap.size W0 W2) := fun W1 W2 h1 h2 => by
            obtain ⟨⟨p0, p1⟩, hb⟩ := h1
            have q0 := CtUAt.below (x := ⟨s, a, b, .slice ua L.length uc⟩) (o := 0) p0 (Nat.lt_of_lt_of_le hBz hb.size) h2
            have q1 := CtUAt.below (x := ⟨sy, ay, by', uy⟩) (o := o + q * 4) p1 (Nat.lt_of_lt_of_le hgW hb.size) h2
            exact ⟨⟨q0, q1⟩, hb.trans (h2.mono hb.size)⟩
          have keepH := Lib.hid keep
          have hS : (((W0.cell? ⟨B, 0, none⟩ = some (.string s) ∧ W0.cell? ⟨B, 1, none⟩ = some (.int .i64 a) ∧ W0.cell? ⟨B, 2, none⟩ = some (.int .i64 b) ∧ W0.cell? ⟨B, 3, none⟩ = some (.slice ua L.length uc)) ∧ (W0.cell? ⟨g, o + q * 4, none⟩ = some (.string sy) ∧ W0.cell? ⟨g, o + q * 4 + 1, none⟩ = some (.int .i64 ay) ∧ W0.cell? ⟨g, o + q * 4 + 2, none⟩ = some (.int .i64 by') ∧ W0.cell? ⟨g, o + q * 4 + 3, none⟩ = some uy)) ∧ Below W0.heap.size W0 W0) := ⟨⟨hP, hY⟩, Below.refl _ _⟩
          clear keep hP hAl hBB hY hr2
          go_region_held3 (fun w' => (((w'.cell? ⟨B, 0, none⟩ = some (.string s) ∧ w'.cell? ⟨B, 1, none⟩ = some (.int .i64 a) ∧ w'.cell? ⟨B, 2, none⟩ = some (.int .i64 b) ∧ w'.cell? ⟨B, 3, none⟩ = some (.slice ua L.length uc)) ∧ (w'.cell? ⟨g, o + q * 4, none⟩ = some (.string sy) ∧ w'.cell? ⟨g, o + q * 4 + 1, none⟩ = some (.int .i64 ay) ∧ w'.cell? ⟨g, o + q * 4 + 2, none⟩ = some (.int .i64 by') ∧ w'.cell? ⟨g, o + q * 4 + 3, none⟩ = some uy)) ∧ Below W0.heap.size W0 w'))
            (first | exact ⟨hS.1, belowN hS.2 1⟩ | exact keepH.out _ _ (by assumption) (by assumption) | assumption)
            (first | (go_at_call 29; (with_reducible refine (cV2.out _ (And.right (by assumption))).mono ?_); rintro e w' ⟨rfl, hbel⟩) | (go_at_call 30; (with_reducible refine (ctId_any s a b (.slice ua L.length uc) _).mono ?_); rintro e w' ⟨rfl, hbel⟩) | (go_at_call 30; (with_reducible refine (ctId_any sy ay by' uy _).mono ?_); rintro e w' ⟨rfl, hbel⟩))
          rename_i hHeld
          have hb2 := below2 hbW hHeld.2
          clear hHeld
          go_wp2
          go_roundw
          case rel => exact ⟨q + 1 + 1, by omega, by go_num, hst, hb2⟩
          case measure => simp [intOf]; omega
        case true.false =>
          have hno := Lib.hid (ctsB_no (Z := Z) (k := q + 1) (by rw [hstep _ hbv, hl]; rfl) hlt)
          rw [hbv] at cV0
          have cV := Lib.hid cV0
          clear hstep cV0
          go_wp2_with (first | (refine wpList_load_mid rfl _ _ rfl g (o + (q + 1) * 4) rfl _ _ hr Tryz.underlying36 rfl rfl ?_))
          have hP := ctU_box s a b (.slice ua L.length uc) wr
          have hbW : Below w.heap.size w (wr.alloc (.cells #[.string s, .int .i64 a, .int .i64 b, .slice ua L.length uc] 36)) := hb.alloc hb.size _
          have hBz : wr.heap.size < (wr.alloc (.cells #[.string s, .int .i64 a, .int .i64 b, .slice ua L.length uc] 36)).heap.size := by simp
          have hAl : Below wr.heap.size wr (wr.alloc (.cells #[.string s, .int .i64 a, .int .i64 b, .slice ua L.length uc] 36)) := (Below.refl _ _).alloc (Nat.le_refl _) _
          generalize wr.alloc (.cells #[.string s, .int .i64 a, .int .i64 b, .slice ua L.length uc] 36) = W0 at hP hbW hBz hAl ⊢
          have cV2 := Lib.hid (fun W (h : Below W0.heap.size W0 W) => cV.out W (hAl.trans (h.mono hAl.size)))
          clear cV
          generalize hBB : wr.heap.size = B at hP hBz ⊢
          have hgW : g < W0.heap.size := Nat.lt_of_lt_of_le hgr hAl.size
          have hY : CtUAt W0 g (o + q * 4) ⟨sy, ay, by', uy⟩ := ctUAt_of (range_below hr2 hgr hAl)
          have keep : ∀ W1 W2, (((W1.cell? ⟨B, 0, none⟩ = some (.string s) ∧ W1.cell? ⟨B, 1, none⟩ = some (.int .i64 a) ∧ W1.cell? ⟨B, 2, none⟩ = some (.int .i64 b) ∧ W1.cell? ⟨B, 3, none⟩ = some (.slice ua L.length uc)) ∧ (W1.cell? ⟨g, o + q * 4, none⟩ = some (.string sy) ∧ W1.cell? ⟨g, o + q * 4 + 1, none⟩ = some (.int .i64 ay) ∧ W1.cell? ⟨g, o + q * 4 + 2, none⟩ = some (.int .i64 by') ∧ W1.cell? ⟨g, o + q * 4 + 3, none⟩ = some uy)) ∧ Below W0.heap.size W0 W1) → Below W1.heap.size W1 W2 → (((W2.cell? ⟨B, 0, none⟩ = some (.string s) ∧ W2.cell? ⟨B, 1, none⟩ = some (.int .i64 a) ∧ W2.cell? ⟨B, 2, none⟩ = some (.int .i64 b) ∧ W2.cell? ⟨B, 3, none⟩ = some (.slice ua L.length uc)) ∧ (W2.cell? ⟨g, o + q * 4, none⟩ = some (.string sy) ∧ W2.cell? ⟨g, o + q * 4 + 1, none⟩ = some (.int .i64 ay) ∧ W2.cell? ⟨g, o + q * 4 + 2, none⟩ = some (.int .i64 by') ∧ W2.cell? ⟨g, o + q * 4 + 3, none⟩ = some uy)) ∧ Below W0.heap.size W0 W2) := fun W1 W2 h1 h2 => by
            obtain ⟨⟨p0, p1⟩, hb⟩ := h1
            have q0 := CtUAt.below (x := ⟨s, a, b, .slice ua L.length uc⟩) (o := 0) p0 (Nat.lt_of_lt_of_le hBz hb.size) h2
            have q1 := CtUAt.below (x := ⟨sy, ay, by', uy⟩) (o := o + q * 4) p1 (Nat.lt_of_lt_of_le hgW hb.size) h2
            exact ⟨⟨q0, q1⟩, hb.trans (h2.mono hb.size)⟩
          have keepH := Lib.hid keep
          have hS : (((W0.cell? ⟨B, 0, none⟩ = some (.string s) ∧ W0.cell? ⟨B, 1, none⟩ = some (.int .i64 a) ∧ W0.cell? ⟨B, 2, none⟩ = some (.int .i64 b) ∧ W0.cell? ⟨B, 3, none⟩ = some (.slice ua L.length uc)) ∧ (W0.cell? ⟨g, o + q * 4, none⟩ = some (.string sy) ∧ W0.cell? ⟨g, o + q * 4 + 1, none⟩ = some (.int .i64 ay) ∧ W0.cell? ⟨g, o + q * 4 + 2, none⟩ = some (.int .i64 by') ∧ W0.cell? ⟨g, o + q * 4 + 3, none⟩ = some uy)) ∧ Below W0.heap.size W0 W0) := ⟨⟨hP, hY⟩, Below.refl _ _⟩
          clear keep hP hAl hBB hY hr2
          go_region_held3 (fun w' => (((w'.cell? ⟨B, 0, none⟩ = some (.string s) ∧ w'.cell? ⟨B, 1, none⟩ = some (.int .i64 a) ∧ w'.cell? ⟨B, 2, none⟩ = some (.int .i64 b) ∧ w'.cell? ⟨B, 3, none⟩ = some (.slice ua L.length uc)) ∧ (w'.cell? ⟨g, o + q * 4, none⟩ = some (.string sy) ∧ w'.cell? ⟨g, o + q * 4 + 1, none⟩ = some (.int .i64 ay) ∧ w'.cell? ⟨g, o + q * 4 + 2, none⟩ = some (.int .i64 by') ∧ w'.cell? ⟨g, o + q * 4 + 3, none⟩ = some uy)) ∧ Below W0.heap.size W0 w'))
            (first | exact ⟨hS.1, belowN hS.2 1⟩ | exact keepH.out _ _ (by assumption) (by assumption) | assumption)
            (first | (go_at_call 29; (with_reducible refine (cV2.out _ (And.right (by assumption))).mono ?_); rintro e w' ⟨rfl, hbel⟩) | (go_at_call 30; (with_reducible refine (ctId_any s a b (.slice ua L.length uc) _).mono ?_); rintro e w' ⟨rfl, hbel⟩) | (go_at_call 30; (with_reducible refine (ctId_any sy ay by' uy _).mono ?_); rintro e w' ⟨rfl, hbel⟩))
          rename_i hHeld
          have hb2 := below2 hbW hHeld.2
          go_wp2
          go_ret
          exact ⟨ret_bool hno.out.symm, hb2⟩
        case false.true =>
          have hno := Lib.hid (ctsB_no (Z := Z) (k := q + 1) (by rw [hstep _ hbv, hl]; rfl) hlt)
          rw [hbv] at cV0
          have cV := Lib.hid cV0
          clear hstep cV0
          go_wp2_with (first | (refine wpList_load_mid rfl _ _ rfl g (o + (q + 1) * 4) rfl _ _ hr Tryz.underlying36 rfl rfl ?_))
          have hP := ctU_box s a b (.slice ua L.length uc) wr
          have hbW : Below w.heap.size w (wr.alloc (.cells #[.string s, .int .i64 a, .int .i64 b, .slice ua L.length uc] 36)) := hb.alloc hb.size _
          have hBz : wr.heap.size < (wr.alloc (.cells #[.string s, .int .i64 a, .int .i64 b, .slice ua L.length uc] 36)).heap.size := by simp
          have hAl : Below wr.heap.size wr (wr.alloc (.cells #[.string s, .int .i64 a, .int .i64 b, .slice ua L.length uc] 36)) := (Below.refl _ _).alloc (Nat.le_refl _) _
          generalize wr.alloc (.cells #[.string s, .int .i64 a, .int .i64 b, .slice ua L.length uc] 36) = W0 at hP hbW hBz hAl ⊢
          have cV2 := Lib.hid (fun W (h : Below W0.heap.size W0 W) => cV.out W (hAl.trans (h.mono hAl.size)))
          clear cV
          generalize hBB : wr.heap.size = B at hP hBz ⊢
          have hgW : g < W0.heap.size := Nat.lt_of_lt_of_le hgr hAl.size
          have hY : CtUAt W0 g (o + q * 4) ⟨sy, ay, by', uy⟩ := ctUAt_of (range_below hr2 hgr hAl)
          have keep : ∀ W1 W2, (((W1.cell? ⟨B, 0, none⟩ = some (.string s) ∧ W1.cell? ⟨B, 1, none⟩ = some (.int .i64 a) ∧ W1.cell? ⟨B, 2, none⟩ = some (.int .i64 b) ∧ W1.cell? ⟨B, 3, none⟩ = some (.slice ua L.length uc)) ∧ (W1.cell? ⟨g, o + q * 4, none⟩ = some (.string sy) ∧ W1.cell? ⟨g, o + q * 4 + 1, none⟩ = some (.int .i64 ay) ∧ W1.cell? ⟨g, o + q * 4 + 2, none⟩ = some (.int .i64 by') ∧ W1.cell? ⟨g, o + q * 4 + 3, none⟩ = some uy)) ∧ Below W0.heap.size W0 W1) → Below W1.heap.size W1 W2 → (((W2.cell? ⟨B, 0, none⟩ = some (.string s) ∧ W2.cell? ⟨B, 1, none⟩ = some (.int .i64 a) ∧ W2.cell? ⟨B, 2, none⟩ = some (.int .i64 b) ∧ W2.cell? ⟨B, 3, none⟩ = some (.slice ua L.length uc)) ∧ (W2.cell? ⟨g, o + q * 4, none⟩ = some (.string sy) ∧ W2.cell? ⟨g, o + q * 4 + 1, none⟩ = some (.int .i64 ay) ∧ W2.cell? ⟨g, o + q * 4 + 2, none⟩ = some (.int .i64 by') ∧ W2.cell? ⟨g, o + q * 4 + 3, none⟩ = some uy)) ∧ Below W0.heap.size W0 W2) := fun W1 W2 h1 h2 => by
            obtain ⟨⟨p0, p1⟩, hb⟩ := h1
            have q0 := CtUAt.below (x := ⟨s, a, b, .slice ua L.length uc⟩) (o := 0) p0 (Nat.lt_of_lt_of_le hBz hb.size) h2
            have q1 := CtUAt.below (x := ⟨sy, ay, by', uy⟩) (o := o + q * 4) p1 (Nat.lt_of_lt_of_le hgW hb.size) h2
            exact ⟨⟨q0, q1⟩, hb.trans (h2.mono hb.size)⟩
          have keepH := Lib.hid keep
          have hS : (((W0.cell? ⟨B, 0, none⟩ = some (.string s) ∧ W0.cell? ⟨B, 1, none⟩ = some (.int .i64 a) ∧ W0.cell? ⟨B, 2, none⟩ = some (.int .i64 b) ∧ W0.cell? ⟨B, 3, none⟩ = some (.slice ua L.length uc)) ∧ (W0.cell? ⟨g, o + q * 4, none⟩ = some (.string sy) ∧ W0.cell? ⟨g, o + q * 4 + 1, none⟩ = some (.int .i64 ay) ∧ W0.cell? ⟨g, o + q * 4 + 2, none⟩ = some (.int .i64 by') ∧ W0.cell? ⟨g, o + q * 4 + 3, none⟩ = some uy)) ∧ Below W0.heap.size W0 W0) := ⟨⟨hP, hY⟩, Below.refl _ _⟩
          clear keep hP hAl hBB hY hr2
          refine wp_region_noPanic ?_
          refine wp_region_held_drew (S := (fun w' => (((w'.cell? ⟨B, 0, none⟩ = some (.string s) ∧ w'.cell? ⟨B, 1, none⟩ = some (.int .i64 a) ∧ w'.cell? ⟨B, 2, none⟩ = some (.int .i64 b) ∧ w'.cell? ⟨B, 3, none⟩ = some (.slice ua L.length uc)) ∧ (w'.cell? ⟨g, o + q * 4, none⟩ = some (.string sy) ∧ w'.cell? ⟨g, o + q * 4 + 1, none⟩ = some (.int .i64 ay) ∧ w'.cell? ⟨g, o + q * 4 + 2, none⟩ = some (.int .i64 by') ∧ w'.cell? ⟨g, o + q * 4 + 3, none⟩ = some uy)) ∧ Below W0.heap.size W0 w'))) (by kernel_rfl) ?_ (fun hHeld => ?_)
          · exact ⟨hS.1, belowN hS.2 1⟩
          refine wpAnyH_take (i := 0) (oi := ⟨some 22, _, _, _, _, _⟩) (v := ?vvz15) rfl (by kernel_rfl) (by kernel_rfl) (by kernel_rfl) (fun _ _ _ h => h) (Or.inl ⟨by rfl, ?hyz15⟩) (by assumption) ?restz15
          case hyz15 => (intro w hSw; (try dsimp only at hSw); go_simp; try with_reducible rfl)
          try simp only [Act.put, List.setIfInBounds_toArray, List.set_cons_zero, List.set_cons_succ]
          refine wpAnyH_take (i := 1) (oi := ⟨some 23, _, _, _, _, _⟩) (v := ?vvz16) rfl (by kernel_rfl) (by kernel_rfl) (by kernel_rfl) (fun _ _ _ h => h) (Or.inl ⟨by rfl, ?hyz16⟩) (by assumption) ?restz16
          case hyz16 => (intro w hSw; (try dsimp only at hSw); go_simp; try with_reducible rfl)
          try simp only [Act.put, List.setIfInBounds_toArray, List.set_cons_zero, List.set_cons_succ]
          refine wpAnyH_ready (rs := [2]) (by kernel_rfl) (by simp) ?_
          refine AllReadyH.cons (o := ⟨some 24, _, _, _, _, _⟩) rfl (fun K hK => ?_) AllReadyH.nil
          go_simp
          (go_at_call 29; (with_reducible refine (cV2.out _ (And.right (by assumption))).mono ?_); rintro e w' ⟨rfl, hbel⟩)
          try go_wp2_with fail
          refine hK.out _ _ ?_ (fun hHeld2 => ?_)
          · exact keepH.out _ _ (by assumption) (by assumption)
          clear hK K hHeld
          have hHeld := hHeld2
          clear hHeld2
          try simp only [Act.put, List.setIfInBounds_toArray, List.set_cons_zero, List.set_cons_succ]
          refine wpAnyH_take (i := 3) (oi := ⟨some 25, _, _, _, _, _⟩) (v := ?vvz17) rfl (by kernel_rfl) (by kernel_rfl) (by kernel_rfl) (fun _ _ _ h => h) (Or.inl ⟨by rfl, ?hyz17⟩) (by assumption) ?restz17
          case hyz17 => (intro w hSw; (try dsimp only at hSw); go_simp; try with_reducible rfl)
          try simp only [Act.put, List.setIfInBounds_toArray, List.set_cons_zero, List.set_cons_succ]
          refine wpAnyH_take (i := 4) (oi := ⟨some 26, _, _, _, _, _⟩) (v := ?vvz18) rfl (by kernel_rfl) (by kernel_rfl) (by kernel_rfl) (fun _ _ _ h => h) (Or.inl ⟨by rfl, ?hyz18⟩) (by assumption) ?restz18
          case hyz18 => (intro w hSw; (try dsimp only at hSw); go_simp; try with_reducible rfl)
          try simp only [Act.put, List.setIfInBounds_toArray, List.set_cons_zero, List.set_cons_succ]
          refine wpAnyH_take (i := 5) (oi := ⟨some 27, _, _, _, _, _⟩) (v := undef) rfl (by kernel_rfl) (by kernel_rfl) (by kernel_rfl) (fun _ _ _ h => h) (Or.inr ⟨by rfl, rfl⟩) (by assumption) ?_
          try simp only [Act.put, List.setIfInBounds_toArray, List.set_cons_zero, List.set_cons_succ]
          refine wpAnyH_take (i := 6) (oi := ⟨some 28, _, _, _, _, _⟩) (v := undef) rfl (by kernel_rfl) (by kernel_rfl) (by kernel_rfl) (fun _ _ _ h => h) (Or.inr ⟨by rfl, rfl⟩) (by assumption) ?_
          try simp only [Act.put, List.setIfInBounds_toArray, List.set_cons_zero, List.set_cons_succ]
          refine wpAnyH_take (i := 7) (oi := ⟨some 29, _, _, _, _, _⟩) (v := undef) rfl (by kernel_rfl) (by kernel_rfl) (by kernel_rfl) (fun _ _ _ h => h) (Or.inr ⟨by rfl, rfl⟩) (by assumption) ?_
          try simp only [Act.put, List.setIfInBounds_toArray, List.set_cons_zero, List.set_cons_succ]
          refine wpAnyH_take (i := 8) (oi := ⟨some 30, _, _, _, _, _⟩) (v := undef) rfl (by kernel_rfl) (by kernel_rfl) (by kernel_rfl) (fun _ _ _ h => h) (Or.inr ⟨by rfl, rfl⟩) (by assumption) ?_
          try simp only [Act.put, List.setIfInBounds_toArray, List.set_cons_zero, List.set_cons_succ]
          refine wpAnyH_take (i := 9) (oi := ⟨some 31, _, _, _, _, _⟩) (v := undef) rfl (by kernel_rfl) (by kernel_rfl) (by kernel_rfl) (fun _ _ _ h => h) (Or.inr ⟨by rfl, rfl⟩) (by assumption) ?_
          try simp only [Act.put, List.setIfInBounds_toArray, List.set_cons_zero, List.set_cons_succ]
          refine wpAnyH_take (i := 10) (oi := ⟨some 32, _, _, _, _, _⟩) (v := undef) rfl (by kernel_rfl) (by kernel_rfl) (by kernel_rfl) (fun _ _ _ h => h) (Or.inr ⟨by rfl, rfl⟩) (by assumption) ?_
          try simp only [Act.put, List.setIfInBounds_toArray, List.set_cons_zero, List.set_cons_succ]
          refine wpAnyH_take (i := 11) (oi := ⟨some 33, _, _, _, _, _⟩) (v := undef) rfl (by kernel_rfl) (by kernel_rfl) (by kernel_rfl) (fun _ _ _ h => h) (Or.inr ⟨by rfl, rfl⟩) (by assumption) ?_
          try simp only [Act.put, List.setIfInBounds_toArray, List.set_cons_zero, List.set_cons_succ]
          refine wpAnyH_take (i := 15) (oi := ⟨some 37, _, _, _, _, _⟩) (v := undef) rfl (by kernel_rfl) (by kernel_rfl) (by kernel_rfl) (fun _ _ _ h => h) (Or.inr ⟨by rfl, rfl⟩) (by assumption) ?_
          try simp only [Act.put, List.setIfInBounds_toArray, List.set_cons_zero, List.set_cons_succ]
          refine wpAnyH_take (i := 16) (oi := ⟨some 38, _, _, _, _, _⟩) (v := undef) rfl (by kernel_rfl) (by kernel_rfl) (by kernel_rfl) (fun _ _ _ h => h) (Or.inr ⟨by rfl, rfl⟩) (by assumption) ?_
          try simp only [Act.put, List.setIfInBounds_toArray, List.set_cons_zero, List.set_cons_succ]
          refine wpAnyH_take (i := 12) (oi := ⟨some 34, _, _, _, _, _⟩) (v := undef) rfl (by kernel_rfl) (by kernel_rfl) (by kernel_rfl) (fun _ _ _ h => h) (Or.inr ⟨by rfl, rfl⟩) (by assumption) ?_
          try simp only [Act.put, List.setIfInBounds_toArray, List.set_cons_zero, List.set_cons_succ]
          refine wpAnyH_take (i := 13) (oi := ⟨some 35, _, _, _, _, _⟩) (v := undef) rfl (by kernel_rfl) (by kernel_rfl) (by kernel_rfl) (fun _ _ _ h => h) (Or.inr ⟨by rfl, rfl⟩) (by assumption) ?_
          try simp only [Act.put, List.setIfInBounds_toArray, List.set_cons_zero, List.set_cons_succ]
          refine wpAnyH_take (i := 14) (oi := ⟨some 36, _, _, _, _, _⟩) (v := undef) rfl (by kernel_rfl) (by kernel_rfl) (by kernel_rfl) (fun _ _ _ h => h) (Or.inr ⟨by rfl, rfl⟩) (by assumption) ?_
          try simp only [Act.put, List.setIfInBounds_toArray, List.set_cons_zero, List.set_cons_succ]
          refine wpAnyH_take (i := 17) (oi := ⟨some 39, _, _, _, _, _⟩) (v := undef) rfl (by kernel_rfl) (by kernel_rfl) (by kernel_rfl) (fun _ _ _ h => h) (Or.inr ⟨by rfl, rfl⟩) (by assumption) ?_
          try simp only [Act.put, List.setIfInBounds_toArray, List.set_cons_zero, List.set_cons_succ]
          refine wpAnyH_take (i := 18) (oi := ⟨some 40, _, _, _, _, _⟩) (v := undef) rfl (by kernel_rfl) (by kernel_rfl) (by kernel_rfl) (fun _ _ _ h => h) (Or.inr ⟨by rfl, rfl⟩) (by assumption) ?_
          try simp only [Act.put, List.setIfInBounds_toArray, List.set_cons_zero, List.set_cons_succ]
          refine wpAnyH_take (i := 19) (oi := ⟨some 41, _, _, _, _, _⟩) (v := undef) rfl (by kernel_rfl) (by kernel_rfl) (by kernel_rfl) (fun _ _ _ h => h) (Or.inr ⟨by rfl, rfl⟩) (by assumption) ?_
          try simp only [Act.put, List.setIfInBounds_toArray, List.set_cons_zero, List.set_cons_succ]
          refine wpAnyH_take (i := 20) (oi := ⟨some 42, _, _, _, _, _⟩) (v := ?vvz19) rfl (by kernel_rfl) (by kernel_rfl) (by kernel_rfl) (fun _ _ _ h => h) (Or.inl ⟨by rfl, ?hyz19⟩) (by assumption) ?restz19
          case hyz19 => (intro w hSw; (try dsimp only at hSw); go_simp; try with_reducible rfl)
          try simp only [Act.put, List.setIfInBounds_toArray, List.set_cons_zero, List.set_cons_succ]
          refine wpAnyH_done (by kernel_rfl) ?_ _
          refine NoPanic.normal ?_
          clear hS keepH
          have hb2 := below2 hbW hHeld.2
          go_wp2
          go_ret
          exact ⟨ret_bool hno.out.symm, hb2⟩
        case false.false =>
          have hno := Lib.hid (ctsB_no (Z := Z) (k := q + 1) (by rw [hstep _ hbv, hl]; rfl) hlt)
          rw [hbv] at cV0
          have cV := Lib.hid cV0
          clear hstep cV0
          go_wp2_with (first | (refine wpList_load_mid rfl _ _ rfl g (o + (q + 1) * 4) rfl _ _ hr Tryz.underlying36 rfl rfl ?_))
          have hP := ctU_box s a b (.slice ua L.length uc) wr
          have hbW : Below w.heap.size w (wr.alloc (.cells #[.string s, .int .i64 a, .int .i64 b, .slice ua L.length uc] 36)) := hb.alloc hb.size _
          have hBz : wr.heap.size < (wr.alloc (.cells #[.string s, .int .i64 a, .int .i64 b, .slice ua L.length uc] 36)).heap.size := by simp
          have hAl : Below wr.heap.size wr (wr.alloc (.cells #[.string s, .int .i64 a, .int .i64 b, .slice ua L.length uc] 36)) := (Below.refl _ _).alloc (Nat.le_refl _) _
          generalize wr.alloc (.cells #[.string s, .int .i64 a, .int .i64 b, .slice ua L.length uc] 36) = W0 at hP hbW hBz hAl ⊢
          have cV2 := Lib.hid (fun W (h : Below W0.heap.size W0 W) => cV.out W (hAl.trans (h.mono hAl.size)))
          clear cV
          generalize hBB : wr.heap.size = B at hP hBz ⊢
          have hgW : g < W0.heap.size := Nat.lt_of_lt_of_le hgr hAl.size
          have hY : CtUAt W0 g (o + q * 4) ⟨sy, ay, by', uy⟩ := ctUAt_of (range_below hr2 hgr hAl)
          have keep : ∀ W1 W2, (((W1.cell? ⟨B, 0, none⟩ = some (.string s) ∧ W1.cell? ⟨B, 1, none⟩ = some (.int .i64 a) ∧ W1.cell? ⟨B, 2, none⟩ = some (.int .i64 b) ∧ W1.cell? ⟨B, 3, none⟩ = some (.slice ua L.length uc)) ∧ (W1.cell? ⟨g, o + q * 4, none⟩ = some (.string sy) ∧ W1.cell? ⟨g, o + q * 4 + 1, none⟩ = some (.int .i64 ay) ∧ W1.cell? ⟨g, o + q * 4 + 2, none⟩ = some (.int .i64 by') ∧ W1.cell? ⟨g, o + q * 4 + 3, none⟩ = some uy)) ∧ Below W0.heap.size W0 W1) → Below W1.heap.size W1 W2 → (((W2.cell? ⟨B, 0, none⟩ = some (.string s) ∧ W2.cell? ⟨B, 1, none⟩ = some (.int .i64 a) ∧ W2.cell? ⟨B, 2, none⟩ = some (.int .i64 b) ∧ W2.cell? ⟨B, 3, none⟩ = some (.slice ua L.length uc)) ∧ (W2.cell? ⟨g, o + q * 4, none⟩ = some (.string sy) ∧ W2.cell? ⟨g, o + q * 4 + 1, none⟩ = some (.int .i64 ay) ∧ W2.cell? ⟨g, o + q * 4 + 2, none⟩ = some (.int .i64 by') ∧ W2.cell? ⟨g, o + q * 4 + 3, none⟩ = some uy)) ∧ Below W0.heap.size W0 W2) := fun W1 W2 h1 h2 => by
            obtain ⟨⟨p0, p1⟩, hb⟩ := h1
            have q0 := CtUAt.below (x := ⟨s, a, b, .slice ua L.length uc⟩) (o := 0) p0 (Nat.lt_of_lt_of_le hBz hb.size) h2
            have q1 := CtUAt.below (x := ⟨sy, ay, by', uy⟩) (o := o + q * 4) p1 (Nat.lt_of_lt_of_le hgW hb.size) h2
            exact ⟨⟨q0, q1⟩, hb.trans (h2.mono hb.size)⟩
          have keepH := Lib.hid keep
          have hS : (((W0.cell? ⟨B, 0, none⟩ = some (.string s) ∧ W0.cell? ⟨B, 1, none⟩ = some (.int .i64 a) ∧ W0.cell? ⟨B, 2, none⟩ = some (.int .i64 b) ∧ W0.cell? ⟨B, 3, none⟩ = some (.slice ua L.length uc)) ∧ (W0.cell? ⟨g, o + q * 4, none⟩ = some (.string sy) ∧ W0.cell? ⟨g, o + q * 4 + 1, none⟩ = some (.int .i64 ay) ∧ W0.cell? ⟨g, o + q * 4 + 2, none⟩ = some (.int .i64 by') ∧ W0.cell? ⟨g, o + q * 4 + 3, none⟩ = some uy)) ∧ Below W0.heap.size W0 W0) := ⟨⟨hP, hY⟩, Below.refl _ _⟩
          clear keep hP hAl hBB hY hr2
          refine wp_region_noPanic ?_
          refine wp_region_held_drew (S := (fun w' => (((w'.cell? ⟨B, 0, none⟩ = some (.string s) ∧ w'.cell? ⟨B, 1, none⟩ = some (.int .i64 a) ∧ w'.cell? ⟨B, 2, none⟩ = some (.int .i64 b) ∧ w'.cell? ⟨B, 3, none⟩ = some (.slice ua L.length uc)) ∧ (w'.cell? ⟨g, o + q * 4, none⟩ = some (.string sy) ∧ w'.cell? ⟨g, o + q * 4 + 1, none⟩ = some (.int .i64 ay) ∧ w'.cell? ⟨g, o + q * 4 + 2, none⟩ = some (.int .i64 by') ∧ w'.cell? ⟨g, o + q * 4 + 3, none⟩ = some uy)) ∧ Below W0.heap.size W0 w'))) (by kernel_rfl) ?_ (fun hHeld => ?_)
          · exact ⟨hS.1, belowN hS.2 1⟩
          refine wpAnyH_take (i := 0) (oi := ⟨some 22, _, _, _, _, _⟩) (v := ?vvz15b) rfl (by kernel_rfl) (by kernel_rfl) (by kernel_rfl) (fun _ _ _ h => h) (Or.inl ⟨by rfl, ?hyz15b⟩) (by assumption) ?restz15b
          case hyz15b => (intro w hSw; (try dsimp only at hSw); go_simp; try with_reducible rfl)
          try simp only [Act.put, List.setIfInBounds_toArray, List.set_cons_zero, List.set_cons_succ]
          refine wpAnyH_take (i := 1) (oi := ⟨some 23, _, _, _, _, _⟩) (v := ?vvz16b) rfl (by kernel_rfl) (by kernel_rfl) (by kernel_rfl) (fun _ _ _ h => h) (Or.inl ⟨by rfl, ?hyz16b⟩) (by assumption) ?restz16b
          case hyz16b => (intro w hSw; (try dsimp only at hSw); go_simp; try with_reducible rfl)
          try simp only [Act.put, List.setIfInBounds_toArray, List.set_cons_zero, List.set_cons_succ]
          refine wpAnyH_ready (rs := [2]) (by kernel_rfl) (by simp) ?_
          refine AllReadyH.cons (o := ⟨some 24, _, _, _, _, _⟩) rfl (fun K hK => ?_) AllReadyH.nil
          go_simp
          (go_at_call 29; (with_reducible refine (cV2.out _ (And.right (by assumption))).mono ?_); rintro e w' ⟨rfl, hbel⟩)
          try go_wp2_with fail
          refine hK.out _ _ ?_ (fun hHeld2 => ?_)
          · exact keepH.out _ _ (by assumption) (by assumption)
          clear hK K hHeld
          have hHeld := hHeld2
          clear hHeld2
          try simp only [Act.put, List.setIfInBounds_toArray, List.set_cons_zero, List.set_cons_succ]
          refine wpAnyH_take (i := 3) (oi := ⟨some 25, _, _, _, _, _⟩) (v := ?vvz17b) rfl (by kernel_rfl) (by kernel_rfl) (by kernel_rfl) (fun _ _ _ h => h) (Or.inl ⟨by rfl, ?hyz17b⟩) (by assumption) ?restz17b
          case hyz17b => (intro w hSw; (try dsimp only at hSw); go_simp; try with_reducible rfl)
          try simp only [Act.put, List.setIfInBounds_toArray, List.set_cons_zero, List.set_cons_succ]
          refine wpAnyH_take (i := 4) (oi := ⟨some 26, _, _, _, _, _⟩) (v := ?vvz18b) rfl (by kernel_rfl) (by kernel_rfl) (by kernel_rfl) (fun _ _ _ h => h) (Or.inl ⟨by rfl, ?hyz18b⟩) (by assumption) ?restz18b
          case hyz18b => (intro w hSw; (try dsimp only at hSw); go_simp; try with_reducible rfl)
          try simp only [Act.put, List.setIfInBounds_toArray, List.set_cons_zero, List.set_cons_succ]
          refine wpAnyH_take (i := 5) (oi := ⟨some 27, _, _, _, _, _⟩) (v := undef) rfl (by kernel_rfl) (by kernel_rfl) (by kernel_rfl) (fun _ _ _ h => h) (Or.inr ⟨by rfl, rfl⟩) (by assumption) ?_
          try simp only [Act.put, List.setIfInBounds_toArray, List.set_cons_zero, List.set_cons_succ]
          refine wpAnyH_take (i := 6) (oi := ⟨some 28, _, _, _, _, _⟩) (v := undef) rfl (by kernel_rfl) (by kernel_rfl) (by kernel_rfl) (fun _ _ _ h => h) (Or.inr ⟨by rfl, rfl⟩) (by assumption) ?_
          try simp only [Act.put, List.setIfInBounds_toArray, List.set_cons_zero, List.set_cons_succ]
          refine wpAnyH_take (i := 7) (oi := ⟨some 29, _, _, _, _, _⟩) (v := undef) rfl (by kernel_rfl) (by kernel_rfl) (by kernel_rfl) (fun _ _ _ h => h) (Or.inr ⟨by rfl, rfl⟩) (by assumption) ?_
          try simp only [Act.put, List.setIfInBounds_toArray, List.set_cons_zero, List.set_cons_succ]
          refine wpAnyH_take (i := 8) (oi := ⟨some 30, _, _, _, _, _⟩) (v := undef) rfl (by kernel_rfl) (by kernel_rfl) (by kernel_rfl) (fun _ _ _ h => h) (Or.inr ⟨by rfl, rfl⟩) (by assumption) ?_
          try simp only [Act.put, List.setIfInBounds_toArray, List.set_cons_zero, List.set_cons_succ]
          refine wpAnyH_take (i := 9) (oi := ⟨some 31, _, _, _, _, _⟩) (v := undef) rfl (by kernel_rfl) (by kernel_rfl) (by kernel_rfl) (fun _ _ _ h => h) (Or.inr ⟨by rfl, rfl⟩) (by assumption) ?_
          try simp only [Act.put, List.setIfInBounds_toArray, List.set_cons_zero, List.set_cons_succ]
          refine wpAnyH_take (i := 10) (oi := ⟨some 32, _, _, _, _, _⟩) (v := undef) rfl (by kernel_rfl) (by kernel_rfl) (by kernel_rfl) (fun _ _ _ h => h) (Or.inr ⟨by rfl, rfl⟩) (by assumption) ?_
          try simp only [Act.put, List.setIfInBounds_toArray, List.set_cons_zero, List.set_cons_succ]
          refine wpAnyH_take (i := 11) (oi := ⟨some 33, _, _, _, _, _⟩) (v := undef) rfl (by kernel_rfl) (by kernel_rfl) (by kernel_rfl) (fun _ _ _ h => h) (Or.inr ⟨by rfl, rfl⟩) (by assumption) ?_
          try simp only [Act.put, List.setIfInBounds_toArray, List.set_cons_zero, List.set_cons_succ]
          refine wpAnyH_take (i := 15) (oi := ⟨some 37, _, _, _, _, _⟩) (v := undef) rfl (by kernel_rfl) (by kernel_rfl) (by kernel_rfl) (fun _ _ _ h => h) (Or.inr ⟨by rfl, rfl⟩) (by assumption) ?_
          try simp only [Act.put, List.setIfInBounds_toArray, List.set_cons_zero, List.set_cons_succ]
          refine wpAnyH_take (i := 16) (oi := ⟨some 38, _, _, _, _, _⟩) (v := undef) rfl (by kernel_rfl) (by kernel_rfl) (by kernel_rfl) (fun _ _ _ h => h) (Or.inr ⟨by rfl, rfl⟩) (by assumption) ?_
          try simp only [Act.put, List.setIfInBounds_toArray, List.set_cons_zero, List.set_cons_succ]
          refine wpAnyH_take (i := 12) (oi := ⟨some 34, _, _, _, _, _⟩) (v := undef) rfl (by kernel_rfl) (by kernel_rfl) (by kernel_rfl) (fun _ _ _ h => h) (Or.inr ⟨by rfl, rfl⟩) (by assumption) ?_
          try simp only [Act.put, List.setIfInBounds_toArray, List.set_cons_zero, List.set_cons_succ]
          refine wpAnyH_take (i := 13) (oi := ⟨some 35, _, _, _, _, _⟩) (v := undef) rfl (by kernel_rfl) (by kernel_rfl) (by kernel_rfl) (fun _ _ _ h => h) (Or.inr ⟨by rfl, rfl⟩) (by assumption) ?_
          try simp only [Act.put, List.setIfInBounds_toArray, List.set_cons_zero, List.set_cons_succ]
          refine wpAnyH_take (i := 14) (oi := ⟨some 36, _, _, _, _, _⟩) (v := undef) rfl (by kernel_rfl) (by kernel_rfl) (by kernel_rfl) (fun _ _ _ h => h) (Or.inr ⟨by rfl, rfl⟩) (by assumption) ?_
          try simp only [Act.put, List.setIfInBounds_toArray, List.set_cons_zero, List.set_cons_succ]
          refine wpAnyH_take (i := 17) (oi := ⟨some 39, _, _, _, _, _⟩) (v := undef) rfl (by kernel_rfl) (by kernel_rfl) (by kernel_rfl) (fun _ _ _ h => h) (Or.inr ⟨by rfl, rfl⟩) (by assumption) ?_
          try simp only [Act.put, List.setIfInBounds_toArray, List.set_cons_zero, List.set_cons_succ]
          refine wpAnyH_take (i := 18) (oi := ⟨some 40, _, _, _, _, _⟩) (v := undef) rfl (by kernel_rfl) (by kernel_rfl) (by kernel_rfl) (fun _ _ _ h => h) (Or.inr ⟨by rfl, rfl⟩) (by assumption) ?_
          try simp only [Act.put, List.setIfInBounds_toArray, List.set_cons_zero, List.set_cons_succ]
          refine wpAnyH_take (i := 19) (oi := ⟨some 41, _, _, _, _, _⟩) (v := undef) rfl (by kernel_rfl) (by kernel_rfl) (by kernel_rfl) (fun _ _ _ h => h) (Or.inr ⟨by rfl, rfl⟩) (by assumption) ?_
          try simp only [Act.put, List.setIfInBounds_toArray, List.set_cons_zero, List.set_cons_succ]
          refine wpAnyH_take (i := 20) (oi := ⟨some 42, _, _, _, _, _⟩) (v := ?vvz19b) rfl (by kernel_rfl) (by kernel_rfl) (by kernel_rfl) (fun _ _ _ h => h) (Or.inl ⟨by rfl, ?hyz19b⟩) (by assumption) ?restz19b
          case hyz19b => (intro w hSw; (try dsimp only at hSw); go_simp; try with_reducible rfl)
          try simp only [Act.put, List.setIfInBounds_toArray, List.set_cons_zero, List.set_cons_succ]
          refine wpAnyH_done (by kernel_rfl) ?_ _
          refine NoPanic.normal ?_
          clear hS keepH
          have hb2 := below2 hbW hHeld.2
          go_wp2
          go_ret
          exact ⟨ret_bool hno.out.symm, hb2⟩
    · obtain rfl : k = Z.length := by omega
      go_wp2
      go_ret
      exact ⟨ret_bool (by rw [hfin.out]; exact hok.out.symm), hb⟩
theorem implValidCoats_any (v : Value) (Z : List Ct) (w : World) (hn : Z.length ≤ 1048576) (hv : CtsAt w v Z) : Calls Tryz.prog 11 #[v] w fun e w' => e = .returned (.bool (ctsB Z)) ∧ Below w.heap.size w w' := by
  have cL := Lib.hid (ct_validList_any v Z w hn hv)
  obtain ⟨p, cap, rfl, _, _, _⟩ := hv
  obtain ⟨q, hq⟩ : ∃ q, q = ctsB Z := ⟨_, rfl⟩
  rw [← hq] at cL ⊢
  clear hq
  go_enter Tryz.func11, Tryz.ntmps11
  go_wp2_with (go_at_call 28; (with_reducible refine cL.out.mono ?_); rintro e w1 ⟨rfl, b1⟩)
  go_ret
  exact ⟨rfl, b1⟩
/-- each of valid coats is valid -/
theorem cts_one {Z : List Ct} (h : ctsB Z = true) {k : Nat} (hk : k < Z.length) : ctB Z[k] = true := by
  unfold ctsB at h
  obtain ⟨h1, _⟩ := Bool.and_eq_true_iff.1 h
  have key : ∀ n, ct_okK Z n = true → ∀ i, i < n → ct_stepOK Z i = true := by
    intro n
    induction n with
    | zero => intro _ i hi; omega
    | succ n ih =>
      intro hn i hi
      unfold ct_okK at hn
      obtain ⟨a, b⟩ := Bool.and_eq_true_iff.1 hn
      rcases Nat.lt_succ_iff_lt_or_eq.1 hi with h' | h'
      · exact ih a i h'
      · rw [h']; exact b
  have h3 := key _ h1 k hk
  unfold ct_stepOK at h3
  rw [ct_getD_at' hk] at h3
  exact (Bool.and_eq_true_iff.1 h3).1
theorem cts_len {Z : List Ct} (h : ctsB Z = true) : Z.length ≤ 10 := by
  unfold ctsB at h
  exact of_decide_eq_true (Bool.and_eq_true_iff.1 h).2
theorem cts_col {Z : List Ct} (h : ctsB Z = true) {k : Nat} (hk : k < Z.length) : colB Z[k].col = true := (ct_bd (s := Z[k].id) (cts_one h hk)).2.2
end Go.Proofs.YtgfhjcbmilaegaaGreatDoor
