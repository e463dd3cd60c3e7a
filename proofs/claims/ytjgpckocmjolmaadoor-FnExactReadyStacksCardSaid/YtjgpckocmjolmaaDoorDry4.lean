/-
  The program's drying: the sequence made, the moisture after days; the model's moisture after days.
-/
import Derived.Test.YtjgpckocmjolmaaDoorDry3
import Derived.Deep.RegionHeld3
namespace Go.Proofs.YtjgpckocmjolmaaDoor
open Go.ChangeShapes Go.WideShapes Go.ChangeAt Go.RowKit Go.Deep
set_option linter.unusedVariables false
set_option linter.unusedSimpArgs false
/-- a sequence is handed back -/
def DryRet (x : Stk) (dd v : Int) (w : World) (e : Ending) (w' : World) : Prop := ∃ bx bd be, e = .returned (.func (.func 44) #[] #[.pointer (some ⟨bx, 0, none⟩), .pointer (some ⟨bd, 0, none⟩), .pointer (some ⟨be, 0, none⟩)]) ∧ StkAt w' bx 0 x ∧ w'.cell? ⟨bd, 0, none⟩ = some (.int .i64 dd) ∧ w'.cell? ⟨be, 0, none⟩ = some (.int .i64 v) ∧ (w.heap.size ≤ bx ∧ w.heap.size ≤ bd ∧ w.heap.size ≤ be) ∧ Below w.heap.size w w'
theorem drying_any (s : ByteArray) (a : Int) (b : Int) (c : Int) (h dd : Int) (w : World) (hE : EvP w) : Calls Tryd.prog 36 #[.agg #[.string s, .int .i64 a, .int .i64 b, .int .i64 c], .int .i64 h, .int .i64 dd] w (DryRet ⟨s, a, b, c⟩ dd (evenV h) w) := by
  have hlt : 0 < w.heap.size := by
    have h0 : w.cell? ⟨0, 0, none⟩ = some (.int .i64 0) := hE.cell 0 _ rfl
    exact World.block_lt_of_cell? w _ h0
  have hB0 : Below w.heap.size w ((w.alloc (.cells #[.string s, .int .i64 a, .int .i64 b, .int .i64 c] 40)).alloc (.cells #[.int .i64 dd] 2)) := ((Below.refl _ _).alloc (Nat.le_refl _) _).alloc (by simp) _
  have hE2 := hE.below hB0
  have x1 : StkAt ((w.alloc (.cells #[.string s, .int .i64 a, .int .i64 b, .int .i64 c] 40)).alloc (.cells #[.int .i64 dd] 2)) w.heap.size 0 ⟨s, a, b, c⟩ := (stk_box s a b c w).below (by simp) ((Below.refl _ _).alloc (Nat.le_refl _) _)
  have x2 : ((w.alloc (.cells #[.string s, .int .i64 a, .int .i64 b, .int .i64 c] 40)).alloc (.cells #[.int .i64 dd] 2)).cell? ⟨w.heap.size + 1, 0, none⟩ = some (.int .i64 dd) := by
    exact cellB (by rw [show w.heap.size + 1 = (w.alloc (.cells #[.string s, .int .i64 a, .int .i64 b, .int .i64 c] 40)).heap.size by simp]; exact heap_alloc_new _ _) 0 _ rfl
  have hz : ((w.alloc (.cells #[.string s, .int .i64 a, .int .i64 b, .int .i64 c] 40)).alloc (.cells #[.int .i64 dd] 2)).heap.size = w.heap.size + 2 := by simp
  go_enter Tryd.func36, Tryd.ntmps36
  go_wp2_with fail
  refine (evenMoisture_any h _ hE2).mono ?_
  rintro e w2 ⟨rfl, b2⟩
  have y1 := x1.below (by omega) b2
  have y2 := (b2.cell (p := ⟨w.heap.size + 1, 0, none⟩) (show w.heap.size + 1 < _ by omega)).trans x2
  have hz2 := b2.size
  have hB2 := hB0.trans (b2.mono (by omega))
  clear x1 x2 hE hE2 hB0 b2
  go_wp2
  go_ret
  refine ⟨w.heap.size, w.heap.size + 1, w2.heap.size, rfl, y1.below (by omega) ((Below.refl _ _).alloc (Nat.le_refl _) _), ((Below.refl _ w2).alloc (Nat.le_refl _) _ |>.cell (p := ⟨w.heap.size + 1, 0, none⟩) (show w.heap.size + 1 < _ by omega)).trans y2, cellB (heap_alloc_new _ _) 0 _ rfl, ⟨by omega, by omega, by omega⟩, hB2.alloc (by omega) _⟩
theorem dryE_mo (m v t : Int) (n : Nat) : (dryE m v t n).2.1 = dryV m v t n := by cases n <;> rfl
theorem dryE_day (m v t : Int) (n : Nat) : (dryE m v t n).1 = n := by cases n <;> simp [dryE]
theorem moistureAfter_any (s : ByteArray) (a : Int) (b : Int) (c : Int) (h dd : Int) (ha0 : 0 ≤ a) (ha1 : a ≤ 1000) (hb0 : 10 ≤ b) (hb1 : b ≤ 1000) (hd0 : 0 ≤ dd) (hd1 : dd ≤ 4000) (w : World) (hE : EvP w) : Calls Tryd.prog 25 #[.agg #[.string s, .int .i64 a, .int .i64 b, .int .i64 c], .int .i64 h, .int .i64 dd] w fun e w' => e = .returned (.int .i64 (dryV a (evenV h) b dd.toNat)) ∧ Below w.heap.size w w' := by
  have hev := even_in h
  have hE2 := hE.below (show Below w.heap.size w (w.alloc (.cells #[.string s, .int .i64 a, .int .i64 b, .int .i64 c] 40)) from (Below.refl _ _).alloc (Nat.le_refl _) _)
  go_enter Tryd.func25, Tryd.ntmps25
  go_wp2_with fail
  refine (drying_any s a b c h dd _ hE2).mono ?_
  rintro e w2 ⟨bx, bd, be, rfl, y1, y2, y3, ⟨z1, z2, z3⟩, b2⟩
  clear hE hE2
  go_wp2_with fail
  refine (last_any bx bd be s a b c dd (evenV h) ha0 ha1 hb0 hb1 hev.1 (by omega) hd0 hd1 _ y1 y2 y3).mono ?_
  rintro e w3 ⟨rfl, b3⟩
  obtain ⟨⟨d', m', g'⟩, hx⟩ : ∃ x, x = dryE a (evenV h) b dd.toNat := ⟨_, rfl⟩
  have hm : Hid (m' = dryV a (evenV h) b dd.toNat) := Lib.hid (by rw [← dryE_mo, ← hx])
  rw [← hx]
  clear hx y1 y2 y3
  dsimp only [encD]
  have hfld : ∀ W, (Instr.field 56 (.agg #[.int .i64 d', .int .i64 m', .int .i64 g']) 1).run Tryd.prog W = .ok (.int .i64 m') W := fun _ => by kernel_rfl
  go_wp2
  go_ret
  exact ⟨ret_int hm.out, ((Below.refl _ _).alloc (Nat.le_refl _) _).trans (below2 b2 b3 |>.mono (by simp))⟩
/-- the code of two tests, one behind the other -/
def code2 (b1 b2 : Bool) (c1 c2 : Int) : Int := if b1 = true then (if b2 = true then 0 else c2) else c1
theorem l04AfterB_any (m e t d : Int) (hm0 : 0 ≤ m) (hm1 : m ≤ 1000) (he0 : 0 ≤ e) (he1 : e ≤ 1000) (ht0 : 10 ≤ t) (ht1 : t ≤ 1000) (hd0 : 0 ≤ d) (hd1 : d ≤ 4000) (w : World) : Calls Tryd.prog 18 #[.int .i64 m, .int .i64 e, .int .i64 t, .int .i64 d] w fun r w' => r = .returned (.int .i64 (dryV m e t d.toNat)) ∧ Below w.heap.size w w' :=
  (l04After_any m e t d hm0 hm1 he0 he1 ht0 ht1 hd0 hd1 w).mono fun _ _ h => ⟨h.1, h.2 ▸ Below.refl _ _⟩
end Go.Proofs.YtjgpckocmjolmaaDoor
