/-
  The program's drying: the sequence made, the moisture after days; the model's moisture after days.
-/
import Derived.Test.YtemccejlophmkaaDoorDry3
import Derived.Deep.RegionHeld3
namespace Go.Proofs.YtemccejlophmkaaDoor
open Go.ChangeShapes Go.WideShapes Go.ChangeAt Go.RowKit Go.Deep
set_option linter.unusedVariables false
set_option linter.unusedSimpArgs false
/-- a sequence is handed back -/
def DryRet (x : Stk) (dd v : Int) (w : World) (e : Ending) (w' : World) : Prop := ∃ bx bd be, e = .returned (.func (.func 45) #[] #[.pointer (some ⟨bx, 0, none⟩), .pointer (some ⟨bd, 0, none⟩), .pointer (some ⟨be, 0, none⟩)]) ∧ StkAt w' bx 0 x ∧ w'.cell? ⟨bd, 0, none⟩ = some (.int .i64 dd) ∧ w'.cell? ⟨be, 0, none⟩ = some (.int .i64 v) ∧ (w.heap.size ≤ bx ∧ w.heap.size ≤ bd ∧ w.heap.size ≤ be) ∧ Below w.heap.size w w'
theorem drying_any (s : ByteArray) (a : Int) (b : Int) (c : Int) (h dd : Int) (w : World) (hE : EvP w) : Calls Tryd.prog 26 #[.agg #[.string s, .int .i64 a, .int .i64 b, .int .i64 c], .int .i64 h, .int .i64 dd] w (DryRet ⟨s, a, b, c⟩ dd (evenV h) w) := by
  have hlt : 0 < w.heap.size := by
    have h0 : w.cell? ⟨0, 0, none⟩ = some (.int .i64 0) := hE.cell 0 _ rfl
    exact World.block_lt_of_cell? w _ h0
  have hB0 : Below w.heap.size w ((w.alloc (.cells #[.string s, .int .i64 a, .int .i64 b, .int .i64 c] 25)).alloc (.cells #[.int .i64 dd] 2)) := ((Below.refl _ _).alloc (Nat.le_refl _) _).alloc (by simp) _
  have hE2 := hE.below hB0
  have x1 : StkAt ((w.alloc (.cells #[.string s, .int .i64 a, .int .i64 b, .int .i64 c] 25)).alloc (.cells #[.int .i64 dd] 2)) w.heap.size 0 ⟨s, a, b, c⟩ := (stk_box s a b c w).below (by simp) ((Below.refl _ _).alloc (Nat.le_refl _) _)
  have x2 : ((w.alloc (.cells #[.string s, .int .i64 a, .int .i64 b, .int .i64 c] 25)).alloc (.cells #[.int .i64 dd] 2)).cell? ⟨w.heap.size + 1, 0, none⟩ = some (.int .i64 dd) := by
    exact cellB (by rw [show w.heap.size + 1 = (w.alloc (.cells #[.string s, .int .i64 a, .int .i64 b, .int .i64 c] 25)).heap.size by simp]; exact heap_alloc_new _ _) 0 _ rfl
  have hz : ((w.alloc (.cells #[.string s, .int .i64 a, .int .i64 b, .int .i64 c] 25)).alloc (.cells #[.int .i64 dd] 2)).heap.size = w.heap.size + 2 := by simp
  go_enter Tryd.func26, Tryd.ntmps26
  go_wp2_with fail
  refine (evenMoisture_any h _ hE2).mono ?_
  rintro e w2 ⟨rfl, b2⟩
  have y1 := x1.below (by omega) b2
  have y2 := (b2.cell (p := ⟨w.heap.size + 1, 0, none⟩) (show w.heap.size + 1 < _ by omega)).trans x2
  have hz2 := b2.size
  have hB2 := hB0.trans (b2.mono (by omega))
  clear x1 x2 hE hE2 hB0 b2
  go_wp2
  go_ret
  refine ⟨w.heap.size, w.heap.size + 1, w2.heap.size, rfl, y1.below (by omega) ((Below.refl _ _).alloc (Nat.le_refl _) _), ((Below.refl _ w2).alloc (Nat.le_refl _) _ |>.cell (p := ⟨w.heap.size + 1, 0, none⟩) (show w.heap.size + 1 < _ by omega)).trans y2, cellB (heap_alloc_new _ _) 0 _ rfl, ⟨by omega, by omega, by omega⟩, hB2.alloc (by omega) _⟩
theorem dryE_mo (m v t : Int) (n : Nat) : (dryE m v t n).2.1 = dryV m v t n := by cases n <;> rfl
theorem dryE_day (m v t : Int) (n : Nat) : (dryE m v t n).1 = n := by cases n <;> simp [dryE]
theorem moistureAfter_any (s : ByteArray) (a : Int) (b : Int) (c : Int) (h dd : Int) (ha0 : 0 ≤ a) (ha1 : a ≤ 1000) (hb0 : 10 ≤ b) (hb1 : b ≤ 1000) (hd0 : 0 ≤ dd) (hd1 : dd ≤ 4000) (w : World) (hE : EvP w) : Calls Tryd.prog 23 #[.agg #[.string s, .int .i64 a, .int .i64 b, .int .i64 c], .int .i64 h, .int .i64 dd] w fun e w' => e = .returned (.int .i64 (dryV a (evenV h) b dd.toNat)) ∧ Below w.heap.size w w' := by
  have hev := even_in h
  have hE2 := hE.below (show Below w.heap.size w (w.alloc (.cells #[.string s, .int .i64 a, .int .i64 b, .int .i64 c] 25)) from (Below.refl _ _).alloc (Nat.le_refl _) _)
  go_enter Tryd.func23, Tryd.ntmps23
  go_wp2_with fail
  refine (drying_any s a b c h dd _ hE2).mono ?_
  rintro e w2 ⟨bx, bd, be, rfl, y1, y2, y3, ⟨z1, z2, z3⟩, b2⟩
  clear hE hE2
  go_wp2_with fail
  refine (last_any bx bd be s a b c dd (evenV h) ha0 ha1 hb0 hb1 hev.1 (by omega) hd0 hd1 _ y1 y2 y3).mono ?_
  rintro e w3 ⟨rfl, b3⟩
  obtain ⟨⟨d', m', g'⟩, hx⟩ : ∃ x, x = dryE a (evenV h) b dd.toNat := ⟨_, rfl⟩
  have hm : Hid (m' = dryV a (evenV h) b dd.toNat) := Lib.hid (by rw [← dryE_mo, ← hx])
  rw [← hx]
  clear hx y1 y2 y3
  dsimp only [encD]
  have hfld : ∀ W, (Instr.field 48 (.agg #[.int .i64 d', .int .i64 m', .int .i64 g']) 1).run Tryd.prog W = .ok (.int .i64 m') W := fun _ => by kernel_rfl
  go_wp2
  go_ret
  exact ⟨ret_int hm.out, ((Below.refl _ _).alloc (Nat.le_refl _) _).trans (below2 b2 b3 |>.mono (by simp))⟩
/-- the code of two tests, one behind the other -/
def code2 (b1 b2 : Bool) (c1 c2 : Int) : Int := if b1 = true then (if b2 = true then 0 else c2) else c1
set_option maxHeartbeats 1600000 in
theorem implMoistureAfter_any (s : ByteArray) (a : Int) (b : Int) (c : Int) (h dd : Int) (hs : s.size ≤ maxLen) (w : World) (hE : EvP w) : Calls Tryd.prog 6 #[.agg #[.string s, .int .i64 a, .int .i64 b, .int .i64 c], .int .i64 h, .int .i64 dd] w fun e w' => e = .returned (.tuple #[.int .i64 (pick (stkB ⟨s, a, b, c⟩ && (inB h 0 1000 && inB dd 0 4000)) (dryV a (evenV h) b dd.toNat)), .int .i64 (code2 (stkB ⟨s, a, b, c⟩) (inB h 0 1000 && inB dd 0 4000) 1 2)]) ∧ Below w.heap.size w w' := by
  cases h1 : stkB ⟨s, a, b, c⟩
  · go_enter Tryd.func6, Tryd.ntmps6
    go_wp2_with (first
      | (go_at_call 20; refine (isValid_any _ _ _ _ hs _).mono ?_; rintro e w1 ⟨rfl, b1⟩; have C1 := bcell b1)
      | (go_at_call 21; refine (isThousandths_any _ _).mono ?_; rintro e w' ⟨rfl, rfl⟩)
      | (go_at_call 22; refine (isTime_any _ _).mono ?_; rintro e w' ⟨rfl, rfl⟩))
    go_ret2
    exact ⟨ret_int2 rfl rfl, ((Below.refl _ _).alloc (Nat.le_refl _) _).trans (b1.mono (by simp))⟩
  cases h2 : inB h 0 1000
  · go_enter Tryd.func6, Tryd.ntmps6
    go_wp2_with (first
      | (go_at_call 20; refine (isValid_any _ _ _ _ hs _).mono ?_; rintro e w1 ⟨rfl, b1⟩; have C1 := bcell b1)
      | (go_at_call 21; refine (isThousandths_any _ _).mono ?_; rintro e w' ⟨rfl, rfl⟩)
      | (go_at_call 22; refine (isTime_any _ _).mono ?_; rintro e w' ⟨rfl, rfl⟩))
    go_ret2
    exact ⟨ret_int2 rfl rfl, ((Below.refl _ _).alloc (Nat.le_refl _) _).trans (b1.mono (by simp))⟩
  cases h3 : inB dd 0 4000
  · go_enter Tryd.func6, Tryd.ntmps6
    go_wp2_with (first
      | (go_at_call 20; refine (isValid_any _ _ _ _ hs _).mono ?_; rintro e w1 ⟨rfl, b1⟩; have C1 := bcell b1)
      | (go_at_call 21; refine (isThousandths_any _ _).mono ?_; rintro e w' ⟨rfl, rfl⟩)
      | (go_at_call 22; refine (isTime_any _ _).mono ?_; rintro e w' ⟨rfl, rfl⟩))
    go_ret2
    exact ⟨ret_int2 rfl rfl, ((Below.refl _ _).alloc (Nat.le_refl _) _).trans (b1.mono (by simp))⟩
  obtain ⟨ha, hb, hc⟩ := stk_bd h1
  have hd := inB_iff.1 h3
  have hE2 := hE.below (show Below w.heap.size w (w.alloc (.cells #[.string s, .int .i64 a, .int .i64 b, .int .i64 c] 25)) from (Below.refl _ _).alloc (Nat.le_refl _) _)
  go_enter Tryd.func6, Tryd.ntmps6
  go_wp2_with (first
      | (go_at_call 20; refine (isValid_any _ _ _ _ hs _).mono ?_; rintro e w1 ⟨rfl, b1⟩; have C1 := bcell b1)
      | (go_at_call 21; refine (isThousandths_any _ _).mono ?_; rintro e w' ⟨rfl, rfl⟩)
      | (go_at_call 22; refine (isTime_any _ _).mono ?_; rintro e w' ⟨rfl, rfl⟩)
      | (go_at_call 23; refine (moistureAfter_any _ _ _ _ _ _ ha.1 ha.2 hb.1 hb.2 hd.1 hd.2 _ (hE2.below b1)).mono ?_; rintro e w2 ⟨rfl, b2⟩))
  go_ret2
  exact ⟨ret_int2 rfl rfl, ((Below.refl _ _).alloc (Nat.le_refl _) _).trans ((b1.trans (b2.mono b1.size)).mono (by simp))⟩
theorem l04AfterB_any (m e t d : Int) (hm0 : 0 ≤ m) (hm1 : m ≤ 1000) (he0 : 0 ≤ e) (he1 : e ≤ 1000) (ht0 : 10 ≤ t) (ht1 : t ≤ 1000) (hd0 : 0 ≤ d) (hd1 : d ≤ 4000) (w : World) : Calls Tryd.prog 35 #[.int .i64 m, .int .i64 e, .int .i64 t, .int .i64 d] w fun r w' => r = .returned (.int .i64 (dryV m e t d.toNat)) ∧ Below w.heap.size w w' :=
  (l04After_any m e t d hm0 hm1 he0 he1 ht0 ht1 hd0 hd1 w).mono fun _ _ h => ⟨h.1, h.2 ▸ Below.refl _ _⟩
set_option maxHeartbeats 1600000 in
theorem specMoistureAfter_any (s : ByteArray) (a : Int) (b : Int) (c : Int) (h dd : Int) (hs : s.size ≤ maxLen) (w : World) : Calls Tryd.prog 14 #[.agg #[.string s, .int .i64 a, .int .i64 b, .int .i64 c], .int .i64 h, .int .i64 dd] w fun e w' => e = .returned (.tuple #[.int .i64 (pick (stkB ⟨s, a, b, c⟩ && (inB h 0 1000 && inB dd 0 4000)) (dryV a (evenV h) b dd.toNat)), .int .i64 (code2 (stkB ⟨s, a, b, c⟩) (inB h 0 1000 && inB dd 0 4000) 1 2)]) ∧ Below w.heap.size w w' := by
  have hat := stk_box s a b c w
  cases h1 : stkB ⟨s, a, b, c⟩
  · go_enter Tryd.func14, Tryd.ntmps14
    go_wp2_with (first
      | (go_at_call 32; refine (l04One_any _ _ _ _ hs _ _ _ hat).mono ?_; rintro e w' ⟨rfl, rfl⟩)
      | (go_at_call 33; refine (l04Share_any _ _).mono ?_; rintro e w' ⟨rfl, rfl⟩)
      | (go_at_call 34; refine (l04Days_any _ _).mono ?_; rintro e w' ⟨rfl, rfl⟩))
    go_ret2
    exact ⟨ret_int2 rfl rfl, (Below.refl _ _).alloc (Nat.le_refl _) _⟩
  cases h2 : inB h 0 1000
  · go_enter Tryd.func14, Tryd.ntmps14
    go_wp2_with (first
      | (go_at_call 32; refine (l04One_any _ _ _ _ hs _ _ _ hat).mono ?_; rintro e w' ⟨rfl, rfl⟩)
      | (go_at_call 33; refine (l04Share_any _ _).mono ?_; rintro e w' ⟨rfl, rfl⟩)
      | (go_at_call 34; refine (l04Days_any _ _).mono ?_; rintro e w' ⟨rfl, rfl⟩))
    go_ret2
    exact ⟨ret_int2 rfl rfl, (Below.refl _ _).alloc (Nat.le_refl _) _⟩
  cases h3 : inB dd 0 4000
  · go_enter Tryd.func14, Tryd.ntmps14
    go_wp2_with (first
      | (go_at_call 32; refine (l04One_any _ _ _ _ hs _ _ _ hat).mono ?_; rintro e w' ⟨rfl, rfl⟩)
      | (go_at_call 33; refine (l04Share_any _ _).mono ?_; rintro e w' ⟨rfl, rfl⟩)
      | (go_at_call 34; refine (l04Days_any _ _).mono ?_; rintro e w' ⟨rfl, rfl⟩))
    go_ret2
    exact ⟨ret_int2 rfl rfl, (Below.refl _ _).alloc (Nat.le_refl _) _⟩
  obtain ⟨ha, hb, hc⟩ := stk_bd h1
  have hd := inB_iff.1 h3
  have hev := even_in h
  go_enter Tryd.func14, Tryd.ntmps14
  go_wp2_with (first
      | (go_at_call 32; refine (l04One_any _ _ _ _ hs _ _ _ hat).mono ?_; rintro e w' ⟨rfl, rfl⟩)
      | (go_at_call 33; refine (l04Share_any _ _).mono ?_; rintro e w' ⟨rfl, rfl⟩)
      | (go_at_call 34; refine (l04Days_any _ _).mono ?_; rintro e w' ⟨rfl, rfl⟩))
  have hbW : Below w.heap.size w (w.alloc (.cells #[.string s, .int .i64 a, .int .i64 b, .int .i64 c] 25)) := (Below.refl _ _).alloc (Nat.le_refl _) _
  have hWz : w.heap.size ≤ (w.alloc (.cells #[.string s, .int .i64 a, .int .i64 b, .int .i64 c] 25)).heap.size := by simp
  have hBz : w.heap.size < (w.alloc (.cells #[.string s, .int .i64 a, .int .i64 b, .int .i64 c] 25)).heap.size := by simp
  generalize w.alloc (.cells #[.string s, .int .i64 a, .int .i64 b, .int .i64 c] 25) = W0 at hat hbW hWz hBz ⊢
  generalize hBB : w.heap.size = B at hat hBz ⊢
  rw [hBB] at hbW hWz
  have keep : ∀ W1 W2, ((W1.cell? ⟨B, 0, none⟩ = some (.string s) ∧ W1.cell? ⟨B, 1, none⟩ = some (.int .i64 a) ∧ W1.cell? ⟨B, 2, none⟩ = some (.int .i64 b) ∧ W1.cell? ⟨B, 3, none⟩ = some (.int .i64 c)) ∧ Below W0.heap.size W0 W1) → Below W1.heap.size W1 W2 → ((W2.cell? ⟨B, 0, none⟩ = some (.string s) ∧ W2.cell? ⟨B, 1, none⟩ = some (.int .i64 a) ∧ W2.cell? ⟨B, 2, none⟩ = some (.int .i64 b) ∧ W2.cell? ⟨B, 3, none⟩ = some (.int .i64 c)) ∧ Below W0.heap.size W0 W2) := fun W1 W2 h1 h2 => by
    obtain ⟨p0, hb⟩ := h1
    have q0 := StkAt.below (x := ⟨s, a, b, c⟩) (o := 0) p0 (Nat.lt_of_lt_of_le hBz hb.size) h2
    exact ⟨q0, hb.trans (h2.mono hb.size)⟩
  have keepH := Lib.hid keep
  have hS : ((W0.cell? ⟨B, 0, none⟩ = some (.string s) ∧ W0.cell? ⟨B, 1, none⟩ = some (.int .i64 a) ∧ W0.cell? ⟨B, 2, none⟩ = some (.int .i64 b) ∧ W0.cell? ⟨B, 3, none⟩ = some (.int .i64 c)) ∧ Below W0.heap.size W0 W0) := ⟨hat, Below.refl _ _⟩
  clear keep hat
  go_region_held3 (fun w' => ((w'.cell? ⟨B, 0, none⟩ = some (.string s) ∧ w'.cell? ⟨B, 1, none⟩ = some (.int .i64 a) ∧ w'.cell? ⟨B, 2, none⟩ = some (.int .i64 b) ∧ w'.cell? ⟨B, 3, none⟩ = some (.int .i64 c)) ∧ Below W0.heap.size W0 w'))
    (first | exact ⟨hS.1, belowN hS.2 1⟩ | exact keepH.out _ _ (by assumption) (by assumption) | assumption)
    (first | (go_at_call 36; (with_reducible refine (l04Even_any h _).mono ?_); rintro e w' ⟨rfl, hbel⟩)
           | (go_at_call 35; (with_reducible refine (l04AfterB_any a (evenV h) b dd ha.1 ha.2 hev.1 (by omega) hb.1 hb.2 hd.1 hd.2 _).mono ?_); rintro e w' ⟨rfl, hbel⟩))
  rename_i hHeld
  go_wp2
  go_ret2
  exact ⟨ret_int2 rfl rfl, hBB ▸ hbW.trans (hHeld.2.mono hWz)⟩
end Go.Proofs.YtemccejlophmkaaDoor
