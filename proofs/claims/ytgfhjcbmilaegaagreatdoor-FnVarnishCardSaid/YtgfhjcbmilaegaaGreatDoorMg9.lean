/-
  Texts that stand together: Ovs.
-/
import Derived.Test.YtgfhjcbmilaegaaGreatDoorMg6
import Derived.Test.YtgfhjcbmilaegaaGreatDoorMg8
namespace Go.Proofs.YtgfhjcbmilaegaaGreatDoor
open Go.ChangeShapes Go.WideShapes Go.ChangeAt Go.RowKit Go.Deep
set_option linter.unusedVariables false
set_option linter.unusedSimpArgs false
set_option maxRecDepth 1000000
theorem grownCell {w w' : World} {r : Option Nat} (hg : w.grownBy w' r) {b o : Nat} (hb : b < w.heap.size) (hr : some b ≠ r) : w'.cell? ⟨b, o, none⟩ = w.cell? ⟨b, o, none⟩ := World.cell?_of_block (w := w) (hg.block b hb hr)
set_option maxHeartbeats 3200000 in
theorem l13Over_any (gx ox : Nat) (v : Value) (s : ByteArray) (a b : Int) (ux : Value) (p q r x y z : Int) (hx : 0 ≤ x ∧ x ≤ 255) (hy : 0 ≤ y ∧ y ≤ 255) (hz : 0 ≤ z ∧ z ≤ 255) (hp : 0 ≤ p ∧ p ≤ 255) (hq : 0 ≤ q ∧ q ≤ 255) (hr : 0 ≤ r ∧ r ≤ 255) (hb : 0 ≤ b ∧ b ≤ 1000) (w : World) (hgx : gx < w.heap.size) (hat : CtAt w gx ox ⟨s, a, b, [p, q, r]⟩ ux) (hv : IntsAt w v [x, y, z]) : Calls Tryz.prog 46 #[.pointer (some ⟨gx, ox, none⟩), v] w (RowI [ovN x p b, ovN y q b, ovN z r b] w) := by
  obtain ⟨i0, hi, hz0, hz1, hz2⟩ := info_parts infoI
  obtain ⟨⟨_, _, b0, b1⟩, hux⟩ := hat
  simp only at b0 b1 hux
  obtain ⟨g, o, uc, rfl, hg, k0, k1, k2⟩ := row3 hux
  obtain ⟨g', o', uc', rfl, hg', l0, l1, l2⟩ := row3 hv
  have e0 : IntKind.i64.wrap (1000 - b) = 1000 - b := IntWalk.i64_in _ (by omega)
  clear hux hv
  obtain ⟨X, hX⟩ : ∃ X, X = ovN x p b := ⟨_, rfl⟩
  have pbX := ovP_bd hx hp hb
  have nbX := ovN_bd hx hp hb
  have cX : Hid (∀ W, Calls Tryz.prog 62 #[.int .i64 (x * (1000 - b) + p * b), .int .i64 1000] W fun e w' => e = .returned (.int .i64 X) ∧ W = w') := Lib.hid (fun W => by rw [hX]; exact l01Div_any _ _ (by decide) (by omega) (by omega) (by decide) (by decide) W)
  have eX1 : IntKind.i64.wrap (x * (1000 - b)) = x * (1000 - b) := IntWalk.i64_in _ (by omega)
  have eX2 : IntKind.i64.wrap (p * b) = p * b := IntWalk.i64_in _ (by omega)
  have eX3 : IntKind.i64.wrap (x * (1000 - b) + p * b) = x * (1000 - b) + p * b := IntWalk.i64_in _ (by omega)
  rw [← hX]
  rw [← hX] at nbX
  have hIX : inI X := by unfold inI; omega
  clear hX pbX nbX
  obtain ⟨Y, hY⟩ : ∃ Y, Y = ovN y q b := ⟨_, rfl⟩
  have pbY := ovP_bd hy hq hb
  have nbY := ovN_bd hy hq hb
  have cY : Hid (∀ W, Calls Tryz.prog 62 #[.int .i64 (y * (1000 - b) + q * b), .int .i64 1000] W fun e w' => e = .returned (.int .i64 Y) ∧ W = w') := Lib.hid (fun W => by rw [hY]; exact l01Div_any _ _ (by decide) (by omega) (by omega) (by decide) (by decide) W)
  have eY1 : IntKind.i64.wrap (y * (1000 - b)) = y * (1000 - b) := IntWalk.i64_in _ (by omega)
  have eY2 : IntKind.i64.wrap (q * b) = q * b := IntWalk.i64_in _ (by omega)
  have eY3 : IntKind.i64.wrap (y * (1000 - b) + q * b) = y * (1000 - b) + q * b := IntWalk.i64_in _ (by omega)
  rw [← hY]
  rw [← hY] at nbY
  have hIY : inI Y := by unfold inI; omega
  clear hY pbY nbY
  obtain ⟨Z, hZ⟩ : ∃ Z, Z = ovN z r b := ⟨_, rfl⟩
  have pbZ := ovP_bd hz hr hb
  have nbZ := ovN_bd hz hr hb
  have cZ : Hid (∀ W, Calls Tryz.prog 62 #[.int .i64 (z * (1000 - b) + r * b), .int .i64 1000] W fun e w' => e = .returned (.int .i64 Z) ∧ W = w') := Lib.hid (fun W => by rw [hZ]; exact l01Div_any _ _ (by decide) (by omega) (by omega) (by decide) (by decide) W)
  have eZ1 : IntKind.i64.wrap (z * (1000 - b)) = z * (1000 - b) := IntWalk.i64_in _ (by omega)
  have eZ2 : IntKind.i64.wrap (r * b) = r * b := IntWalk.i64_in _ (by omega)
  have eZ3 : IntKind.i64.wrap (z * (1000 - b) + r * b) = z * (1000 - b) + r * b := IntWalk.i64_in _ (by omega)
  rw [← hZ]
  rw [← hZ] at nbZ
  have hIZ : inI Z := by unfold inI; omega
  clear hZ pbZ nbZ
  clear hx hy hz hp hq hr hb
  go_enter Tryz.func46, Tryz.ntmps46
  go_wp2
  have hown0 := rowI_start w
  have hbb0 : Hid (Below w.heap.size w (w.alloc (.cells #[] 2))) := Lib.hid ((Below.refl _ _).alloc (Nat.le_refl _) _)
  go_loopw [5, 6] (fun u i wr => ∃ L : List Int, Hid (Below w.heap.size w wr) ∧ wr.ownsRow w.heap.size 2 1 u L.length (L.map encI) ∧ ((i = .int .i64 0 ∧ L = []) ∨ (i = .int .i64 1 ∧ L = [X]) ∨ (i = .int .i64 2 ∧ L = [X, Y]) ∨ (i = .int .i64 3 ∧ L = [X, Y, Z]))) (fun _ i _ => 3 - (intOf i).toNat)
  case atStart => exact ⟨[], hbb0, hown0, Or.inl ⟨rfl, rfl⟩⟩
  case round =>
    obtain ⟨L, hB, hown, ⟨rfl, rfl⟩ | ⟨rfl, rfl⟩ | ⟨rfl, rfl⟩ | ⟨rfl, rfl⟩⟩ := hrel
    · have hOwn : Hid (wr.drew.ownsRow w.heap.size 2 1 u5 ([] : List Int).length (([] : List Int).map encI)) := Lib.hid hown
      have keepH : Hid (∀ W1 W2, ((W1.cell? ⟨gx, ox + 2, none⟩ = some (.int .i64 b) ∧ W1.cell? ⟨gx, ox + 3, none⟩ = some (.slice (some ⟨g, o, none⟩) 3 uc) ∧ W1.cell? ⟨g, o, none⟩ = some (.int .i64 p) ∧ W1.cell? ⟨g', o', none⟩ = some (.int .i64 x)) ∧ Below w.heap.size w W1) → Below W1.heap.size W1 W2 → ((W2.cell? ⟨gx, ox + 2, none⟩ = some (.int .i64 b) ∧ W2.cell? ⟨gx, ox + 3, none⟩ = some (.slice (some ⟨g, o, none⟩) 3 uc) ∧ W2.cell? ⟨g, o, none⟩ = some (.int .i64 p) ∧ W2.cell? ⟨g', o', none⟩ = some (.int .i64 x)) ∧ Below w.heap.size w W2)) := Lib.hid (fun W1 W2 h1 h2 => by
        obtain ⟨⟨p0, p1, p2, p3⟩, hb⟩ := h1
        have z := hb.size
        exact ⟨⟨(bcell h2 _ _ (by omega)).trans p0, (bcell h2 _ _ (by omega)).trans p1, (bcell h2 _ _ (by omega)).trans p2, (bcell h2 _ _ (by omega)).trans p3⟩, below2 hb h2⟩)
      have hge := hown.own_ge
      have keepG : Hid (∀ W1 W2, ((W1.cell? ⟨gx, ox + 2, none⟩ = some (.int .i64 b) ∧ W1.cell? ⟨gx, ox + 3, none⟩ = some (.slice (some ⟨g, o, none⟩) 3 uc) ∧ W1.cell? ⟨g, o, none⟩ = some (.int .i64 p) ∧ W1.cell? ⟨g', o', none⟩ = some (.int .i64 x)) ∧ Below w.heap.size w W1) → W1.grownBy W2 (Value.ownBlock u5) → ((W2.cell? ⟨gx, ox + 2, none⟩ = some (.int .i64 b) ∧ W2.cell? ⟨gx, ox + 3, none⟩ = some (.slice (some ⟨g, o, none⟩) 3 uc) ∧ W2.cell? ⟨g, o, none⟩ = some (.int .i64 p) ∧ W2.cell? ⟨g', o', none⟩ = some (.int .i64 x)) ∧ Below w.heap.size w W2)) := Lib.hid (fun W1 W2 h1 h2 => by
        obtain ⟨⟨p0, p1, p2, p3⟩, hb⟩ := h1
        have z := hb.size
        have ne : ∀ j, j < w.heap.size → some j ≠ Value.ownBlock u5 := fun j hj e => by have := hge j e.symm; omega
        exact ⟨⟨(grownCell h2 (by omega) (ne _ hgx)).trans p0, (grownCell h2 (by omega) (ne _ hgx)).trans p1, (grownCell h2 (by omega) (ne _ hg)).trans p2, (grownCell h2 (by omega) (ne _ hg')).trans p3⟩, hb.grown h2 hb.size hge⟩)
      have hS : ((wr.cell? ⟨gx, ox + 2, none⟩ = some (.int .i64 b) ∧ wr.cell? ⟨gx, ox + 3, none⟩ = some (.slice (some ⟨g, o, none⟩) 3 uc) ∧ wr.cell? ⟨g, o, none⟩ = some (.int .i64 p) ∧ wr.cell? ⟨g', o', none⟩ = some (.int .i64 x)) ∧ Below w.heap.size w wr) := ⟨⟨(bcell hB.out _ _ hgx).trans b0, (bcell hB.out _ _ hgx).trans b1, (bcell hB.out _ _ hg).trans k0, (bcell hB.out _ _ hg').trans l0⟩, hB.out⟩
      have hSz := hB.out.size
      clear hge b0 b1 k0 k1 k2 l0 l1 l2
      go_wp2
      go_region_held3 (fun w' => ((w'.cell? ⟨gx, ox + 2, none⟩ = some (.int .i64 b) ∧ w'.cell? ⟨gx, ox + 3, none⟩ = some (.slice (some ⟨g, o, none⟩) 3 uc) ∧ w'.cell? ⟨g, o, none⟩ = some (.int .i64 p) ∧ w'.cell? ⟨g', o', none⟩ = some (.int .i64 x)) ∧ Below w.heap.size w w'))
        (first | exact ⟨hS.1, belowN hS.2 1⟩ | exact keepH.out _ _ (by assumption) (by assumption) | assumption | exact keepH.out _ _ (by assumption) ((Below.refl _ _).alloc (Nat.le_refl _) _) | exact keepG.out _ _ (by assumption) hgrow9)
        (first
          | (go_at_call 62; (try rw [e0]); (try rw [eX1]); (try rw [eX3]); (with_reducible refine (cX.out _).mono ?_); rintro e w' ⟨rfl, rfl⟩)
          | (refine step_append_lies _ (by rfl) _ _ _ (by rfl) w.heap.size 2 i0 (.int .i64 0) 1 8 Tryz.underlying26 hi hz0 hz1 hz2 rfl (by decide) _ ([] : List Int).length (([] : List Int).map encI) (by rfl) (hOwn.out.alloc _) _ 1 1 [.int .i64 X] (by rfl) (by rfl) (World.news_of_block (heap_alloc_new _ _)) (by simp [Value.oneCell']) (by omega) (by unfold maxLen; simp) (by simp) (by simp; omega) _ rfl ?_; intro g9 cap9 w9 hown9 hgrow9 hat9 hlt9))
      rename_i hHeld'
      have hown10 : w9.ownsRow w.heap.size 2 1 (.slice (some ⟨g9, 0, none⟩) 1 cap9) ([X] : List Int).length (([X] : List Int).map encI) := hown9
      have hb9 := Lib.hid hHeld'.2
      clear hS keepH keepG hOwn hgrow9 hown9 hown hHeld'
      go_wp2
      go_roundw
      case rel => exact ⟨[X], hb9, hown10, Or.inr (Or.inl ⟨rfl, rfl⟩)⟩
      case measure => simp [intOf]
    · have hOwn : Hid (wr.drew.ownsRow w.heap.size 2 1 u5 ([X] : List Int).length (([X] : List Int).map encI)) := Lib.hid hown
      have keepH : Hid (∀ W1 W2, ((W1.cell? ⟨gx, ox + 2, none⟩ = some (.int .i64 b) ∧ W1.cell? ⟨gx, ox + 3, none⟩ = some (.slice (some ⟨g, o, none⟩) 3 uc) ∧ W1.cell? ⟨g, o + 1, none⟩ = some (.int .i64 q) ∧ W1.cell? ⟨g', o' + 1, none⟩ = some (.int .i64 y)) ∧ Below w.heap.size w W1) → Below W1.heap.size W1 W2 → ((W2.cell? ⟨gx, ox + 2, none⟩ = some (.int .i64 b) ∧ W2.cell? ⟨gx, ox + 3, none⟩ = some (.slice (some ⟨g, o, none⟩) 3 uc) ∧ W2.cell? ⟨g, o + 1, none⟩ = some (.int .i64 q) ∧ W2.cell? ⟨g', o' + 1, none⟩ = some (.int .i64 y)) ∧ Below w.heap.size w W2)) := Lib.hid (fun W1 W2 h1 h2 => by
        obtain ⟨⟨p0, p1, p2, p3⟩, hb⟩ := h1
        have z := hb.size
        exact ⟨⟨(bcell h2 _ _ (by omega)).trans p0, (bcell h2 _ _ (by omega)).trans p1, (bcell h2 _ _ (by omega)).trans p2, (bcell h2 _ _ (by omega)).trans p3⟩, below2 hb h2⟩)
      have hge := hown.own_ge
      have keepG : Hid (∀ W1 W2, ((W1.cell? ⟨gx, ox + 2, none⟩ = some (.int .i64 b) ∧ W1.cell? ⟨gx, ox + 3, none⟩ = some (.slice (some ⟨g, o, none⟩) 3 uc) ∧ W1.cell? ⟨g, o + 1, none⟩ = some (.int .i64 q) ∧ W1.cell? ⟨g', o' + 1, none⟩ = some (.int .i64 y)) ∧ Below w.heap.size w W1) → W1.grownBy W2 (Value.ownBlock u5) → ((W2.cell? ⟨gx, ox + 2, none⟩ = some (.int .i64 b) ∧ W2.cell? ⟨gx, ox + 3, none⟩ = some (.slice (some ⟨g, o, none⟩) 3 uc) ∧ W2.cell? ⟨g, o + 1, none⟩ = some (.int .i64 q) ∧ W2.cell? ⟨g', o' + 1, none⟩ = some (.int .i64 y)) ∧ Below w.heap.size w W2)) := Lib.hid (fun W1 W2 h1 h2 => by
        obtain ⟨⟨p0, p1, p2, p3⟩, hb⟩ := h1
        have z := hb.size
        have ne : ∀ j, j < w.heap.size → some j ≠ Value.ownBlock u5 := fun j hj e => by have := hge j e.symm; omega
        exact ⟨⟨(grownCell h2 (by omega) (ne _ hgx)).trans p0, (grownCell h2 (by omega) (ne _ hgx)).trans p1, (grownCell h2 (by omega) (ne _ hg)).trans p2, (grownCell h2 (by omega) (ne _ hg')).trans p3⟩, hb.grown h2 hb.size hge⟩)
      have hS : ((wr.cell? ⟨gx, ox + 2, none⟩ = some (.int .i64 b) ∧ wr.cell? ⟨gx, ox + 3, none⟩ = some (.slice (some ⟨g, o, none⟩) 3 uc) ∧ wr.cell? ⟨g, o + 1, none⟩ = some (.int .i64 q) ∧ wr.cell? ⟨g', o' + 1, none⟩ = some (.int .i64 y)) ∧ Below w.heap.size w wr) := ⟨⟨(bcell hB.out _ _ hgx).trans b0, (bcell hB.out _ _ hgx).trans b1, (bcell hB.out _ _ hg).trans k1, (bcell hB.out _ _ hg').trans l1⟩, hB.out⟩
      have hSz := hB.out.size
      clear hge b0 b1 k0 k1 k2 l0 l1 l2
      go_wp2
      go_region_held3 (fun w' => ((w'.cell? ⟨gx, ox + 2, none⟩ = some (.int .i64 b) ∧ w'.cell? ⟨gx, ox + 3, none⟩ = some (.slice (some ⟨g, o, none⟩) 3 uc) ∧ w'.cell? ⟨g, o + 1, none⟩ = some (.int .i64 q) ∧ w'.cell? ⟨g', o' + 1, none⟩ = some (.int .i64 y)) ∧ Below w.heap.size w w'))
        (first | exact ⟨hS.1, belowN hS.2 1⟩ | exact keepH.out _ _ (by assumption) (by assumption) | assumption | exact keepH.out _ _ (by assumption) ((Below.refl _ _).alloc (Nat.le_refl _) _) | exact keepG.out _ _ (by assumption) hgrow9)
        (first
          | (go_at_call 62; (try rw [e0]); (try rw [eY1]); (try rw [eY3]); (with_reducible refine (cY.out _).mono ?_); rintro e w' ⟨rfl, rfl⟩)
          | (refine step_append_lies _ (by rfl) _ _ _ (by rfl) w.heap.size 2 i0 (.int .i64 0) 1 8 Tryz.underlying26 hi hz0 hz1 hz2 rfl (by decide) _ ([X] : List Int).length (([X] : List Int).map encI) (by rfl) (hOwn.out.alloc _) _ 1 1 [.int .i64 Y] (by rfl) (by rfl) (World.news_of_block (heap_alloc_new _ _)) (by simp [Value.oneCell']) (by omega) (by unfold maxLen; simp) (by simp) (by simp; omega) _ rfl ?_; intro g9 cap9 w9 hown9 hgrow9 hat9 hlt9))
      rename_i hHeld'
      have hown10 : w9.ownsRow w.heap.size 2 1 (.slice (some ⟨g9, 0, none⟩) 2 cap9) ([X, Y] : List Int).length (([X, Y] : List Int).map encI) := hown9
      have hb9 := Lib.hid hHeld'.2
      clear hS keepH keepG hOwn hgrow9 hown9 hown hHeld'
      go_wp2
      go_roundw
      case rel => exact ⟨[X, Y], hb9, hown10, Or.inr (Or.inr (Or.inl ⟨rfl, rfl⟩))⟩
      case measure => simp [intOf]
    · have hOwn : Hid (wr.drew.ownsRow w.heap.size 2 1 u5 ([X, Y] : List Int).length (([X, Y] : List Int).map encI)) := Lib.hid hown
      have keepH : Hid (∀ W1 W2, ((W1.cell? ⟨gx, ox + 2, none⟩ = some (.int .i64 b) ∧ W1.cell? ⟨gx, ox + 3, none⟩ = some (.slice (some ⟨g, o, none⟩) 3 uc) ∧ W1.cell? ⟨g, o + 2, none⟩ = some (.int .i64 r) ∧ W1.cell? ⟨g', o' + 2, none⟩ = some (.int .i64 z)) ∧ Below w.heap.size w W1) → Below W1.heap.size W1 W2 → ((W2.cell? ⟨gx, ox + 2, none⟩ = some (.int .i64 b) ∧ W2.cell? ⟨gx, ox + 3, none⟩ = some (.slice (some ⟨g, o, none⟩) 3 uc) ∧ W2.cell? ⟨g, o + 2, none⟩ = some (.int .i64 r) ∧ W2.cell? ⟨g', o' + 2, none⟩ = some (.int .i64 z)) ∧ Below w.heap.size w W2)) := Lib.hid (fun W1 W2 h1 h2 => by
        obtain ⟨⟨p0, p1, p2, p3⟩, hb⟩ := h1
        have z := hb.size
        exact ⟨⟨(bcell h2 _ _ (by omega)).trans p0, (bcell h2 _ _ (by omega)).trans p1, (bcell h2 _ _ (by omega)).trans p2, (bcell h2 _ _ (by omega)).trans p3⟩, below2 hb h2⟩)
      have hge := hown.own_ge
      have keepG : Hid (∀ W1 W2, ((W1.cell? ⟨gx, ox + 2, none⟩ = some (.int .i64 b) ∧ W1.cell? ⟨gx, ox + 3, none⟩ = some (.slice (some ⟨g, o, none⟩) 3 uc) ∧ W1.cell? ⟨g, o + 2, none⟩ = some (.int .i64 r) ∧ W1.cell? ⟨g', o' + 2, none⟩ = some (.int .i64 z)) ∧ Below w.heap.size w W1) → W1.grownBy W2 (Value.ownBlock u5) → ((W2.cell? ⟨gx, ox + 2, none⟩ = some (.int .i64 b) ∧ W2.cell? ⟨gx, ox + 3, none⟩ = some (.slice (some ⟨g, o, none⟩) 3 uc) ∧ W2.cell? ⟨g, o + 2, none⟩ = some (.int .i64 r) ∧ W2.cell? ⟨g', o' + 2, none⟩ = some (.int .i64 z)) ∧ Below w.heap.size w W2)) := Lib.hid (fun W1 W2 h1 h2 => by
        obtain ⟨⟨p0, p1, p2, p3⟩, hb⟩ := h1
        have z := hb.size
        have ne : ∀ j, j < w.heap.size → some j ≠ Value.ownBlock u5 := fun j hj e => by have := hge j e.symm; omega
        exact ⟨⟨(grownCell h2 (by omega) (ne _ hgx)).trans p0, (grownCell h2 (by omega) (ne _ hgx)).trans p1, (grownCell h2 (by omega) (ne _ hg)).trans p2, (grownCell h2 (by omega) (ne _ hg')).trans p3⟩, hb.grown h2 hb.size hge⟩)
      have hS : ((wr.cell? ⟨gx, ox + 2, none⟩ = some (.int .i64 b) ∧ wr.cell? ⟨gx, ox + 3, none⟩ = some (.slice (some ⟨g, o, none⟩) 3 uc) ∧ wr.cell? ⟨g, o + 2, none⟩ = some (.int .i64 r) ∧ wr.cell? ⟨g', o' + 2, none⟩ = some (.int .i64 z)) ∧ Below w.heap.size w wr) := ⟨⟨(bcell hB.out _ _ hgx).trans b0, (bcell hB.out _ _ hgx).trans b1, (bcell hB.out _ _ hg).trans k2, (bcell hB.out _ _ hg').trans l2⟩, hB.out⟩
      have hSz := hB.out.size
      clear hge b0 b1 k0 k1 k2 l0 l1 l2
      go_wp2
      go_region_held3 (fun w' => ((w'.cell? ⟨gx, ox + 2, none⟩ = some (.int .i64 b) ∧ w'.cell? ⟨gx, ox + 3, none⟩ = some (.slice (some ⟨g, o, none⟩) 3 uc) ∧ w'.cell? ⟨g, o + 2, none⟩ = some (.int .i64 r) ∧ w'.cell? ⟨g', o' + 2, none⟩ = some (.int .i64 z)) ∧ Below w.heap.size w w'))
        (first | exact ⟨hS.1, belowN hS.2 1⟩ | exact keepH.out _ _ (by assumption) (by assumption) | assumption | exact keepH.out _ _ (by assumption) ((Below.refl _ _).alloc (Nat.le_refl _) _) | exact keepG.out _ _ (by assumption) hgrow9)
        (first
          | (go_at_call 62; (try rw [e0]); (try rw [eZ1]); (try rw [eZ3]); (with_reducible refine (cZ.out _).mono ?_); rintro e w' ⟨rfl, rfl⟩)
          | (refine step_append_lies _ (by rfl) _ _ _ (by rfl) w.heap.size 2 i0 (.int .i64 0) 1 8 Tryz.underlying26 hi hz0 hz1 hz2 rfl (by decide) _ ([X, Y] : List Int).length (([X, Y] : List Int).map encI) (by rfl) (hOwn.out.alloc _) _ 1 1 [.int .i64 Z] (by rfl) (by rfl) (World.news_of_block (heap_alloc_new _ _)) (by simp [Value.oneCell']) (by omega) (by unfold maxLen; simp) (by simp) (by simp; omega) _ rfl ?_; intro g9 cap9 w9 hown9 hgrow9 hat9 hlt9))
      rename_i hHeld'
      have hown10 : w9.ownsRow w.heap.size 2 1 (.slice (some ⟨g9, 0, none⟩) 3 cap9) ([X, Y, Z] : List Int).length (([X, Y, Z] : List Int).map encI) := hown9
      have hb9 := Lib.hid hHeld'.2
      clear hS keepH keepG hOwn hgrow9 hown9 hown hHeld'
      go_wp2
      go_roundw
      case rel => exact ⟨[X, Y, Z], hb9, hown10, Or.inr (Or.inr (Or.inr ⟨rfl, rfl⟩))⟩
      case measure => simp [intOf]
    · have hB2 := hB
      have hown2 := Lib.hid hown
      clear hown
      go_wp2
      go_ret
      exact ⟨_, rfl, hown2.out, hB2.out⟩
end Go.Proofs.YtgfhjcbmilaegaaGreatDoor
