/-
  The model's draws of a stack and numbers.
-/
import Derived.Test.YtemccejlophmkaaDoorDraw4
import Derived.Deep.RegionWith
import Derived.Deep.RegionHeld3
import Derived.WalkLawsBesides
namespace Go.Proofs.YtemccejlophmkaaDoor
open Go.ChangeShapes Go.WideShapes Go.ChangeAt Go.RowKit Go.Deep
set_option linter.unusedVariables false
set_option maxRecDepth 1000000
set_option linter.unusedSimpArgs false
theorem u8_at {B : Nat} {w W : World} {v : Value} {Z : List Int} (h : U8Old B w v Z) (hB : B ≤ W.heap.size) (hb : Below w.heap.size w W) : U8Old W.heap.size W v Z := by
  obtain ⟨a, cap, h1, h2, h3, h4⟩ := h.below hb
  refine ⟨a, cap, h1, h2, h3, ?_⟩
  rcases h4 with h4 | ⟨g, o, e, hg0, hg, hc⟩
  · exact Or.inl h4
  · exact Or.inr ⟨g, o, e, hg, hg, hc⟩
theorem src_drew {w : World} {b n : Nat} {v : Value} (h : SrcAt w b v n) (k : Nat) : SrcAt (w.drewN k) b v n := h
theorem u8_drew {B : Nat} {w : World} {v : Value} {Z : List Int} (h : U8Old B w v Z) (k : Nat) : U8Old B (w.drewN k) v Z := h
/-- what a drawing return holds: the stack at X, room at R -/
structure DrS (b X R : Nat) (x y z : Int) (w0 w : World) : Prop where
  x0 : w.cell? ⟨X, 0, none⟩ = some (.string ⟨#[115, 97]⟩)
  x1 : w.cell? ⟨X, 1, none⟩ = some (.int .i64 x)
  x2 : w.cell? ⟨X, 2, none⟩ = some (.int .i64 y)
  x3 : w.cell? ⟨X, 3, none⟩ = some (.int .i64 z)
  room : ∀ i, i < 4 → (∃ u, w.cell? ⟨R, i, none⟩ = some u) ∧ w.frozen? ⟨R, i, none⟩ = false
  low : Below w0.heap.size w0 w
  xb : X ≠ b
  rb : R ≠ b
  xr : X ≠ R
  rl : w0.heap.size ≤ R ∧ w0.heap.size ≤ b
theorem DrS.after {b X R : Nat} {x y z : Int} {w0 w w' : World} (h : DrS b X R x y z w0 w) (g : w.grownBy w' (some b)) : DrS b X R x y z w0 w' := by
  have kX : w'.heap[X]? = w.heap[X]? := g.block X (World.block_lt_of_cell? w _ h.x0) (fun e => h.xb (by injection e))
  have kR : w'.heap[R]? = w.heap[R]? := g.block R (by obtain ⟨⟨u, hu⟩, _⟩ := h.room 0 (by omega); exact World.block_lt_of_cell? w _ hu) (fun e => h.rb (by injection e))
  have hl := h.rl.2
  exact ⟨(cell_block kX).trans h.x0, (cell_block kX).trans h.x1, (cell_block kX).trans h.x2, (cell_block kX).trans h.x3, fun i hi => ⟨by rw [cell_block kR]; exact (h.room i hi).1, by rw [World.frozen?_of_block (a := ⟨R, i, none⟩) kR]; exact (h.room i hi).2⟩, h.low.grown g h.low.size (fun k hk => by injection hk with hk; omega), h.xb, h.rb, h.xr, h.rl⟩
theorem DrS.set {b X R : Nat} {x y z : Int} {w0 w : World} (h : DrS b X R x y z w0 w) (j : Nat) (u : Value) : DrS b X R x y z w0 (w.setCell ⟨R, j, none⟩ u) := by
  have kX : (w.setCell ⟨R, j, none⟩ u).heap[X]? = w.heap[X]? := Below.heap_setCell _ _ _ X h.xr
  refine ⟨(cell_block kX).trans h.x0, (cell_block kX).trans h.x1, (cell_block kX).trans h.x2, (cell_block kX).trans h.x3, fun i hi => ?_, h.low.setCell (p := ⟨R, j, none⟩) h.rl.1 u, h.xb, h.rb, h.xr, h.rl⟩
  obtain ⟨⟨o, ho⟩, hf⟩ := h.room i hi
  refine ⟨?_, by rw [World.frozen?_setCell]; exact hf⟩
  by_cases e : i = j
  · subst e; exact ⟨_, World.cell?_setCell_same _ _ _ ho⟩
  · exact ⟨o, (World.cell?_setCell_other _ _ _ _ (by intro h; injection h with _ h2; exact e h2.symm)).trans ho⟩
theorem below_grow {B : Nat} {a w w' : World} {b : Nat} (h : Below B a w) (hB : B ≤ w.heap.size) (g : w.grownBy w' (some b)) (hb : B ≤ b) : Below B a w' := h.grown g hB (fun k hk => by injection hk with hk; omega)
set_option maxHeartbeats 6400000 in
theorem DrawMoistureAfter_any (v : Value) (Z : List Int) (w : World) (hZ : Z.length ≤ 1048576) (hu : U8Old w.heap.size w v Z) :
    Calls Tryd.prog 5 #[v] w fun e w' => ∃ x y z h d, e = .returned (.tuple #[.agg #[.string ⟨#[115, 97]⟩, .int .i64 x, .int .i64 y, .int .i64 z], .int .i64 h, .int .i64 d]) ∧ (-1 ≤ x ∧ x ≤ 40000) ∧ (-1 ≤ y ∧ y ≤ 40000) ∧ (-1 ≤ z ∧ z ≤ 40000) ∧ (-1 ≤ h ∧ h ≤ 1001) ∧ (-1 ≤ d ∧ d ≤ 4001) ∧ Below w.heap.size w w' := by
  have hA : Below w.heap.size w (w.alloc (.cells #[.string ⟨#[]⟩, .int .i64 0, .int .i64 0, .int .i64 0] 25)) := (Below.refl _ _).alloc (Nat.le_refl _) _
  obtain ⟨W0, hW0⟩ : ∃ W0, W0 = w.alloc (.cells #[.string ⟨#[]⟩, .int .i64 0, .int .i64 0, .int .i64 0] 25) := ⟨_, rfl⟩
  have hR0 : W0.heap[w.heap.size]? = some (.cells #[.string ⟨#[]⟩, .int .i64 0, .int .i64 0, .int .i64 0] 25) := by rw [hW0]; exact heap_alloc_new w _
  have zR0 : w.heap.size < W0.heap.size := lt_some hR0
  rw [← hW0] at hA
  have q0 := from_any v Z W0 (u8_at hu (Nat.le_of_lt zR0) hA)
  have q1 := Lib.hid (fun b W (hb : w.heap.size ≤ b) => l04DrawOne_any ⟨#[115, 97]⟩ b w.heap.size 0 v Z W hb (by decide) hZ)
  have q2 := Lib.hid (fun b n W (hb : w.heap.size ≤ b) (hn : n ≤ 50) x y z => l04Bent_any ⟨#[115, 97]⟩ x y z b w.heap.size n v Z W hb hn hZ)
  have q3 := Lib.hid (fun b n W (hb : w.heap.size ≤ b) (hn : n ≤ 50) => l04DrawShare_any b w.heap.size n v Z W hb hn hZ)
  have q5 := Lib.hid (fun b n W (hb : w.heap.size ≤ b) (hn : n ≤ 50) => l04DrawDays_any b w.heap.size n v Z W hb hn hZ)
  have hA' := Lib.hid hA
  have hu' := Lib.hid hu
  have hW0' := Lib.hid hW0
  clear hu hA
  go_enter Tryd.func5, Tryd.ntmps5
  go_wp2_with fail
  rw [← hW0]
  clear hW0
  refine q0.out.mono ?_
  rintro e w1 ⟨b, rfl, hb, s1, u1, g1⟩
  have hR1 := (g1.block w.heap.size zR0).trans hR0
  have zR1 := lt_some hR1
  have G1 := Lib.hid (below2 hA'.out g1)
  have uw := hu'.out.below G1.out
  have hbw : w.heap.size ≤ b := by omega
  have zW : W0.heap.size ≤ w1.heap.size := g1.size
  have p1 := Lib.hid (q1.out b w1 hbw s1 uw)
  clear s1 u1 uw g1 q0 q1 hR0
  go_wp2_with fail
  refine p1.out.mono ?_
  rintro e w2 ⟨x1, y1, z1, m1, rfl, hx1, hy1, hz1, hm1, s2, u2, g2⟩
  have hR2 := (g2.block w.heap.size zR1 (by intro h; injection h; omega)).trans hR1
  have zR2 := lt_some hR2
  have G2 := Lib.hid (below_grow G1.out G1.out.size g2 hbw)
  have zW2 := Nat.le_trans zW g2.size
  have p2 := Lib.hid (q2.out b m1 w2 hbw (by omega) x1 y1 z1 hx1 hy1 hz1 s2 u2)
  clear s2 u2 g2 p1 q2 hR1 G1 hx1 hy1 hz1
  go_wp2_with fail
  refine p2.out.mono ?_
  rintro e w3 ⟨x, y, z, m2, rfl, hx, hy, hz, hm2, s3, u3, g3⟩
  have hR3 := (g3.block w.heap.size zR2 (by intro h; injection h; omega)).trans hR2
  have zR3 := lt_some hR3
  have G3 := Lib.hid (below_grow G2.out G2.out.size g3 hbw)
  have zW3 := Nat.le_trans zW2 g3.size
  have p3 := Lib.hid (fun X => q3.out b m2 (w3.alloc X) hbw (by omega) (src_alloc s3 _) (u8_alloc u3 _))
  have hbw3 : b < w3.heap.size := s3.1
  clear s3 u3 g3 p2 q3 hR2 G2
  go_wp2_with fail
  refine (p3.out _).mono ?_
  rintro e w4 ⟨h, m3, rfl, h0, h1, hm3, s4, u4, g4⟩
  have hX4 := (g4.block w3.heap.size (by simp) (by intro h; injection h; omega)).trans (heap_alloc_new w3 _)
  have hR4 := (g4.block w.heap.size (by simp; omega) (by intro h; injection h; omega)).trans ((Below.heap_alloc _ _ _ zR3).trans hR3)
  have G4 := Lib.hid (below_grow (G3.out.alloc (by have := G3.out.size; omega) _) (by simp; omega) g4 hbw)
  have q4 := Lib.hid (And.intro s4 u4)
  have zX4 := lt_some hX4
  have zR4 := lt_some hR4
  have hXb : w3.heap.size ≠ b := by omega
  have hRb : w.heap.size ≠ b := by omega
  have hRX : w.heap.size ≠ w3.heap.size := by omega
  have hXR : w3.heap.size ≠ w.heap.size := by omega
  have qd := Lib.hid (fun m W (hm : m ≤ 50) => q5.out b m W hbw hm)
  have cX0 : w4.cell? ⟨w3.heap.size, 0, none⟩ = some (.string ⟨#[115, 97]⟩) := cellB hX4 0 _ rfl
  have fX0 := freeB hX4 0
  have cX1 : w4.cell? ⟨w3.heap.size, 1, none⟩ = some (.int .i64 x) := cellB hX4 1 _ rfl
  have fX1 := freeB hX4 1
  have cX2 : w4.cell? ⟨w3.heap.size, 2, none⟩ = some (.int .i64 y) := cellB hX4 2 _ rfl
  have fX2 := freeB hX4 2
  have cX3 : w4.cell? ⟨w3.heap.size, 3, none⟩ = some (.int .i64 z) := cellB hX4 3 _ rfl
  have fX3 := freeB hX4 3
  have cR0 : w4.cell? ⟨w.heap.size, 0, none⟩ = some (.string ⟨#[]⟩) := cellB hR4 0 _ rfl
  have fR0 := freeB hR4 0
  have cR1 : w4.cell? ⟨w.heap.size, 1, none⟩ = some (.int .i64 0) := cellB hR4 1 _ rfl
  have fR1 := freeB hR4 1
  have cR2 : w4.cell? ⟨w.heap.size, 2, none⟩ = some (.int .i64 0) := cellB hR4 2 _ rfl
  have fR2 := freeB hR4 2
  have cR3 : w4.cell? ⟨w.heap.size, 3, none⟩ = some (.int .i64 0) := cellB hR4 3 _ rfl
  have fR3 := freeB hR4 3
  have hS0 : DrS b w3.heap.size w.heap.size x y z w w4.drew := ⟨cX0, cX1, cX2, cX3, fun i hi => by
      match i, hi with
      | 0, _ => exact ⟨⟨_, cR0⟩, fR0⟩
      | 1, _ => exact ⟨⟨_, cR1⟩, fR1⟩
      | 2, _ => exact ⟨⟨_, cR2⟩, fR2⟩
      | 3, _ => exact ⟨⟨_, cR3⟩, fR3⟩, belowN G4.out 1, hXb, hRb, hXR, ⟨Nat.le_refl _, hbw⟩⟩
  have q4d : SrcAt w4.drew b v m3 ∧ U8Old w.heap.size w4.drew v Z := q4.out
  have hm4 : m3 ≤ 50 := by omega
  clear s4 u4 g4 p3 G3 hR3 q5 hX4 hR4 hm1 hm2
  clear cX0 cX1 cX2 cX3 cR0 cR1 cR2 cR3 fX0 fX1 fX2 fX3 fR0 fR1 fR2 fR3
  go_wp2
  refine wp_region_noPanic ?_
  refine wp_region_held_drew (S := (fun w' => DrS b w3.heap.size w.heap.size x y z w w')) (by kernel_rfl) ?_ (fun hHeld => ?_)
  · exact hS0
  refine wpAnyH_take (i := 0) (oi := ⟨some 16, _, _, _, _, _⟩) (v := ?vvz1) rfl (by kernel_rfl) (by kernel_rfl) (by kernel_rfl) (fun _ _ _ h => h) (Or.inl ⟨by rfl, ?hyz1⟩) (by assumption) ?restz1
  case hyz1 => (intro w hSw; (try dsimp only at hSw); have q0 := hSw.x0; have q1 := hSw.x1; have q2 := hSw.x2; have q3 := hSw.x3; go_simp; try with_reducible rfl)
  try simp only [Act.put, List.setIfInBounds_toArray, List.set_cons_zero, List.set_cons_succ]
  refine wpAnyH_take (i := 1) (oi := ⟨some 17, _, _, _, _, _⟩) (v := ?vvz2) rfl (by kernel_rfl) (by kernel_rfl) (by kernel_rfl) (fun _ _ _ h => h) (Or.inl ⟨by rfl, ?hyz2⟩) (by assumption) ?restz2
  case hyz2 => (intro w hSw; (try dsimp only at hSw); go_simp; try with_reducible rfl)
  try simp only [Act.put, List.setIfInBounds_toArray, List.set_cons_zero, List.set_cons_succ]
  refine wpAnyH_take (i := 2) (oi := ⟨some 18, _, _, _, _, _⟩) (v := ?vvz3) rfl (by kernel_rfl) (by kernel_rfl) (by kernel_rfl) (fun _ _ _ h => h) (Or.inl ⟨by rfl, ?hyz3⟩) (by assumption) ?restz3
  case hyz3 => (intro w hSw; (try dsimp only at hSw); go_simp; try with_reducible rfl)
  try simp only [Act.put, List.setIfInBounds_toArray, List.set_cons_zero, List.set_cons_succ]
  refine wpAnyH_ready (rs := [3]) (by kernel_rfl) (by simp) ?_
  refine AllReadyH.cons (o := ⟨some 19, _, _, _, _, _⟩) rfl (fun K hK => ?_) AllReadyH.nil
  go_simp
  (go_at_call 19; (with_reducible refine (qd.out m3 _ hm4 q4d.1 q4d.2).mono ?_); rintro e w5 ⟨d, m5, rfl, d0, d1, hm5, s5, u5, g5⟩; have hH5 := hHeld.after g5; clear s5 u5 g5)
  try go_wp2_with fail
  refine hK.out _ _ ?_ (fun hHeld2 => ?_)
  · exact hH5
  clear hK K hHeld
  have hHeld := hHeld2
  clear hHeld2 hH5
  try simp only [Act.put, List.setIfInBounds_toArray, List.set_cons_zero, List.set_cons_succ]
  refine wpAnyH_ready (rs := [4]) (by kernel_rfl) (by simp) ?_
  refine AllReadyH.cons (o := ⟨none, _, _, _, _, _⟩) rfl (fun K hK => ?_) AllReadyH.nil
  have hr0 := hHeld.room 0 (by omega)
  have hr1 := hHeld.room 1 (by omega)
  have hr2 := hHeld.room 2 (by omega)
  have hr3 := hHeld.room 3 (by omega)
  obtain ⟨⟨o0, cR0⟩, fR0⟩ := hr0
  obtain ⟨⟨o1, cR1⟩, fR1⟩ := hr1
  obtain ⟨⟨o2, cR2⟩, fR2⟩ := hr2
  obtain ⟨⟨o3, cR3⟩, fR3⟩ := hr3
  go_simp
  refine hK.out _ _ ?_ (fun hHeld2 => ?_)
  · exact (((hHeld.set 0 _).set 1 _).set 2 _).set 3 _
  clear hK K hHeld
  have hHeld := hHeld2
  clear hHeld2
  try simp only [Act.put, List.setIfInBounds_toArray, List.set_cons_zero, List.set_cons_succ]
  refine wpAnyH_take (i := 5) (oi := ⟨some 3, _, _, _, _, _⟩) (v := ?vvz4) rfl (by kernel_rfl) (by kernel_rfl) (by kernel_rfl) (fun _ _ _ h => h) (Or.inl ⟨by rfl, ?hyz4⟩) (by assumption) ?restz4
  case hyz4 => (intro w hSw; (try dsimp only at hSw); go_simp; try with_reducible rfl)
  try simp only [Act.put, List.setIfInBounds_toArray, List.set_cons_zero, List.set_cons_succ]
  refine wpAnyH_take (i := 6) (oi := ⟨some 4, _, _, _, _, _⟩) (v := ?vvz5) rfl (by kernel_rfl) (by kernel_rfl) (by kernel_rfl) (fun _ _ _ h => h) (Or.inl ⟨by rfl, ?hyz5⟩) (by assumption) ?restz5
  case hyz5 => (intro w hSw; (try dsimp only at hSw); go_simp; try with_reducible rfl)
  try simp only [Act.put, List.setIfInBounds_toArray, List.set_cons_zero, List.set_cons_succ]
  refine wpAnyH_done (by kernel_rfl) ?_ _
  refine NoPanic.normal ?_
  clear hS0 q4d
  go_wp2
  exact bodyPost_ret (v := .tuple #[.agg #[.string ⟨#[115, 97]⟩, .int .i64 x, .int .i64 y, .int .i64 z], .int .i64 h, .int .i64 d]) (by simp [results, Tryd.results5, go_sem, cR0, cR1, cR2, cR3]) rfl ⟨x, y, z, h, d, rfl, hx, hy, hz, ⟨h0, h1⟩, ⟨d0, d1⟩, hHeld.low⟩
set_option maxHeartbeats 6400000 in
theorem DrawDaysToDry_any (v : Value) (Z : List Int) (w : World) (hZ : Z.length ≤ 1048576) (hu : U8Old w.heap.size w v Z) :
    Calls Tryd.prog 10 #[v] w fun e w' => ∃ x y z h d, e = .returned (.tuple #[.agg #[.string ⟨#[115, 97]⟩, .int .i64 x, .int .i64 y, .int .i64 z], .int .i64 h, .int .i64 d]) ∧ (-1 ≤ x ∧ x ≤ 40000) ∧ (-1 ≤ y ∧ y ≤ 40000) ∧ (-1 ≤ z ∧ z ≤ 40000) ∧ (-1 ≤ h ∧ h ≤ 1001) ∧ (-1 ≤ d ∧ d ≤ 1001) ∧ Below w.heap.size w w' := by
  have hA : Below w.heap.size w (w.alloc (.cells #[.string ⟨#[]⟩, .int .i64 0, .int .i64 0, .int .i64 0] 25)) := (Below.refl _ _).alloc (Nat.le_refl _) _
  obtain ⟨W0, hW0⟩ : ∃ W0, W0 = w.alloc (.cells #[.string ⟨#[]⟩, .int .i64 0, .int .i64 0, .int .i64 0] 25) := ⟨_, rfl⟩
  have hR0 : W0.heap[w.heap.size]? = some (.cells #[.string ⟨#[]⟩, .int .i64 0, .int .i64 0, .int .i64 0] 25) := by rw [hW0]; exact heap_alloc_new w _
  have zR0 : w.heap.size < W0.heap.size := lt_some hR0
  rw [← hW0] at hA
  have q0 := from_any v Z W0 (u8_at hu (Nat.le_of_lt zR0) hA)
  have q1 := Lib.hid (fun b W (hb : w.heap.size ≤ b) => l04DrawOne_any ⟨#[115, 97]⟩ b w.heap.size 0 v Z W hb (by decide) hZ)
  have q2 := Lib.hid (fun b n W (hb : w.heap.size ≤ b) (hn : n ≤ 50) x y z => l04Bent_any ⟨#[115, 97]⟩ x y z b w.heap.size n v Z W hb hn hZ)
  have q3 := Lib.hid (fun b n W (hb : w.heap.size ≤ b) (hn : n ≤ 50) => l04DrawShare_any b w.heap.size n v Z W hb hn hZ)
  have q5 := Lib.hid (fun b n W (hb : w.heap.size ≤ b) (hn : n ≤ 50) => l04DrawGoal_any b w.heap.size n v Z W hb hn hZ)
  have hA' := Lib.hid hA
  have hu' := Lib.hid hu
  have hW0' := Lib.hid hW0
  clear hu hA
  go_enter Tryd.func10, Tryd.ntmps10
  go_wp2_with fail
  rw [← hW0]
  clear hW0
  refine q0.out.mono ?_
  rintro e w1 ⟨b, rfl, hb, s1, u1, g1⟩
  have hR1 := (g1.block w.heap.size zR0).trans hR0
  have zR1 := lt_some hR1
  have G1 := Lib.hid (below2 hA'.out g1)
  have uw := hu'.out.below G1.out
  have hbw : w.heap.size ≤ b := by omega
  have zW : W0.heap.size ≤ w1.heap.size := g1.size
  have p1 := Lib.hid (q1.out b w1 hbw s1 uw)
  clear s1 u1 uw g1 q0 q1 hR0
  go_wp2_with fail
  refine p1.out.mono ?_
  rintro e w2 ⟨x1, y1, z1, m1, rfl, hx1, hy1, hz1, hm1, s2, u2, g2⟩
  have hR2 := (g2.block w.heap.size zR1 (by intro h; injection h; omega)).trans hR1
  have zR2 := lt_some hR2
  have G2 := Lib.hid (below_grow G1.out G1.out.size g2 hbw)
  have zW2 := Nat.le_trans zW g2.size
  have p2 := Lib.hid (q2.out b m1 w2 hbw (by omega) x1 y1 z1 hx1 hy1 hz1 s2 u2)
  clear s2 u2 g2 p1 q2 hR1 G1 hx1 hy1 hz1
  go_wp2_with fail
  refine p2.out.mono ?_
  rintro e w3 ⟨x, y, z, m2, rfl, hx, hy, hz, hm2, s3, u3, g3⟩
  have hR3 := (g3.block w.heap.size zR2 (by intro h; injection h; omega)).trans hR2
  have zR3 := lt_some hR3
  have G3 := Lib.hid (below_grow G2.out G2.out.size g3 hbw)
  have zW3 := Nat.le_trans zW2 g3.size
  have p3 := Lib.hid (fun X => q3.out b m2 (w3.alloc X) hbw (by omega) (src_alloc s3 _) (u8_alloc u3 _))
  have hbw3 : b < w3.heap.size := s3.1
  clear s3 u3 g3 p2 q3 hR2 G2
  go_wp2_with fail
  refine (p3.out _).mono ?_
  rintro e w4 ⟨h, m3, rfl, h0, h1, hm3, s4, u4, g4⟩
  have hX4 := (g4.block w3.heap.size (by simp) (by intro h; injection h; omega)).trans (heap_alloc_new w3 _)
  have hR4 := (g4.block w.heap.size (by simp; omega) (by intro h; injection h; omega)).trans ((Below.heap_alloc _ _ _ zR3).trans hR3)
  have G4 := Lib.hid (below_grow (G3.out.alloc (by have := G3.out.size; omega) _) (by simp; omega) g4 hbw)
  have q4 := Lib.hid (And.intro s4 u4)
  have zX4 := lt_some hX4
  have zR4 := lt_some hR4
  have hXb : w3.heap.size ≠ b := by omega
  have hRb : w.heap.size ≠ b := by omega
  have hRX : w.heap.size ≠ w3.heap.size := by omega
  have hXR : w3.heap.size ≠ w.heap.size := by omega
  have qd := Lib.hid (fun m W (hm : m ≤ 50) => q5.out b m W hbw hm)
  have cX0 : w4.cell? ⟨w3.heap.size, 0, none⟩ = some (.string ⟨#[115, 97]⟩) := cellB hX4 0 _ rfl
  have fX0 := freeB hX4 0
  have cX1 : w4.cell? ⟨w3.heap.size, 1, none⟩ = some (.int .i64 x) := cellB hX4 1 _ rfl
  have fX1 := freeB hX4 1
  have cX2 : w4.cell? ⟨w3.heap.size, 2, none⟩ = some (.int .i64 y) := cellB hX4 2 _ rfl
  have fX2 := freeB hX4 2
  have cX3 : w4.cell? ⟨w3.heap.size, 3, none⟩ = some (.int .i64 z) := cellB hX4 3 _ rfl
  have fX3 := freeB hX4 3
  have cR0 : w4.cell? ⟨w.heap.size, 0, none⟩ = some (.string ⟨#[]⟩) := cellB hR4 0 _ rfl
  have fR0 := freeB hR4 0
  have cR1 : w4.cell? ⟨w.heap.size, 1, none⟩ = some (.int .i64 0) := cellB hR4 1 _ rfl
  have fR1 := freeB hR4 1
  have cR2 : w4.cell? ⟨w.heap.size, 2, none⟩ = some (.int .i64 0) := cellB hR4 2 _ rfl
  have fR2 := freeB hR4 2
  have cR3 : w4.cell? ⟨w.heap.size, 3, none⟩ = some (.int .i64 0) := cellB hR4 3 _ rfl
  have fR3 := freeB hR4 3
  have hS0 : DrS b w3.heap.size w.heap.size x y z w w4.drew := ⟨cX0, cX1, cX2, cX3, fun i hi => by
      match i, hi with
      | 0, _ => exact ⟨⟨_, cR0⟩, fR0⟩
      | 1, _ => exact ⟨⟨_, cR1⟩, fR1⟩
      | 2, _ => exact ⟨⟨_, cR2⟩, fR2⟩
      | 3, _ => exact ⟨⟨_, cR3⟩, fR3⟩, belowN G4.out 1, hXb, hRb, hXR, ⟨Nat.le_refl _, hbw⟩⟩
  have q4d : SrcAt w4.drew b v m3 ∧ U8Old w.heap.size w4.drew v Z := q4.out
  have hm4 : m3 ≤ 50 := by omega
  clear s4 u4 g4 p3 G3 hR3 q5 hX4 hR4 hm1 hm2
  clear cX0 cX1 cX2 cX3 cR0 cR1 cR2 cR3 fX0 fX1 fX2 fX3 fR0 fR1 fR2 fR3
  go_wp2
  refine wp_region_noPanic ?_
  refine wp_region_held_drew (S := (fun w' => DrS b w3.heap.size w.heap.size x y z w w')) (by kernel_rfl) ?_ (fun hHeld => ?_)
  · exact hS0
  refine wpAnyH_take (i := 0) (oi := ⟨some 16, _, _, _, _, _⟩) (v := ?vvz6) rfl (by kernel_rfl) (by kernel_rfl) (by kernel_rfl) (fun _ _ _ h => h) (Or.inl ⟨by rfl, ?hyz6⟩) (by assumption) ?restz6
  case hyz6 => (intro w hSw; (try dsimp only at hSw); have q0 := hSw.x0; have q1 := hSw.x1; have q2 := hSw.x2; have q3 := hSw.x3; go_simp; try with_reducible rfl)
  try simp only [Act.put, List.setIfInBounds_toArray, List.set_cons_zero, List.set_cons_succ]
  refine wpAnyH_take (i := 1) (oi := ⟨some 17, _, _, _, _, _⟩) (v := ?vvz7) rfl (by kernel_rfl) (by kernel_rfl) (by kernel_rfl) (fun _ _ _ h => h) (Or.inl ⟨by rfl, ?hyz7⟩) (by assumption) ?restz7
  case hyz7 => (intro w hSw; (try dsimp only at hSw); go_simp; try with_reducible rfl)
  try simp only [Act.put, List.setIfInBounds_toArray, List.set_cons_zero, List.set_cons_succ]
  refine wpAnyH_take (i := 2) (oi := ⟨some 18, _, _, _, _, _⟩) (v := ?vvz8) rfl (by kernel_rfl) (by kernel_rfl) (by kernel_rfl) (fun _ _ _ h => h) (Or.inl ⟨by rfl, ?hyz8⟩) (by assumption) ?restz8
  case hyz8 => (intro w hSw; (try dsimp only at hSw); go_simp; try with_reducible rfl)
  try simp only [Act.put, List.setIfInBounds_toArray, List.set_cons_zero, List.set_cons_succ]
  refine wpAnyH_ready (rs := [3]) (by kernel_rfl) (by simp) ?_
  refine AllReadyH.cons (o := ⟨some 19, _, _, _, _, _⟩) rfl (fun K hK => ?_) AllReadyH.nil
  go_simp
  (go_at_call 25; (with_reducible refine (qd.out m3 _ hm4 q4d.1 q4d.2).mono ?_); rintro e w5 ⟨d, m5, rfl, d0, d1, hm5, s5, u5, g5⟩; have hH5 := hHeld.after g5; clear s5 u5 g5)
  try go_wp2_with fail
  refine hK.out _ _ ?_ (fun hHeld2 => ?_)
  · exact hH5
  clear hK K hHeld
  have hHeld := hHeld2
  clear hHeld2 hH5
  try simp only [Act.put, List.setIfInBounds_toArray, List.set_cons_zero, List.set_cons_succ]
  refine wpAnyH_ready (rs := [4]) (by kernel_rfl) (by simp) ?_
  refine AllReadyH.cons (o := ⟨none, _, _, _, _, _⟩) rfl (fun K hK => ?_) AllReadyH.nil
  have hr0 := hHeld.room 0 (by omega)
  have hr1 := hHeld.room 1 (by omega)
  have hr2 := hHeld.room 2 (by omega)
  have hr3 := hHeld.room 3 (by omega)
  obtain ⟨⟨o0, cR0⟩, fR0⟩ := hr0
  obtain ⟨⟨o1, cR1⟩, fR1⟩ := hr1
  obtain ⟨⟨o2, cR2⟩, fR2⟩ := hr2
  obtain ⟨⟨o3, cR3⟩, fR3⟩ := hr3
  go_simp
  refine hK.out _ _ ?_ (fun hHeld2 => ?_)
  · exact (((hHeld.set 0 _).set 1 _).set 2 _).set 3 _
  clear hK K hHeld
  have hHeld := hHeld2
  clear hHeld2
  try simp only [Act.put, List.setIfInBounds_toArray, List.set_cons_zero, List.set_cons_succ]
  refine wpAnyH_take (i := 5) (oi := ⟨some 3, _, _, _, _, _⟩) (v := ?vvz9) rfl (by kernel_rfl) (by kernel_rfl) (by kernel_rfl) (fun _ _ _ h => h) (Or.inl ⟨by rfl, ?hyz9⟩) (by assumption) ?restz9
  case hyz9 => (intro w hSw; (try dsimp only at hSw); go_simp; try with_reducible rfl)
  try simp only [Act.put, List.setIfInBounds_toArray, List.set_cons_zero, List.set_cons_succ]
  refine wpAnyH_take (i := 6) (oi := ⟨some 4, _, _, _, _, _⟩) (v := ?vvz10) rfl (by kernel_rfl) (by kernel_rfl) (by kernel_rfl) (fun _ _ _ h => h) (Or.inl ⟨by rfl, ?hyz10⟩) (by assumption) ?restz10
  case hyz10 => (intro w hSw; (try dsimp only at hSw); go_simp; try with_reducible rfl)
  try simp only [Act.put, List.setIfInBounds_toArray, List.set_cons_zero, List.set_cons_succ]
  refine wpAnyH_done (by kernel_rfl) ?_ _
  refine NoPanic.normal ?_
  clear hS0 q4d
  go_wp2
  exact bodyPost_ret (v := .tuple #[.agg #[.string ⟨#[115, 97]⟩, .int .i64 x, .int .i64 y, .int .i64 z], .int .i64 h, .int .i64 d]) (by simp [results, Tryd.results10, go_sem, cR0, cR1, cR2, cR3]) rfl ⟨x, y, z, h, d, rfl, hx, hy, hz, ⟨h0, h1⟩, ⟨d0, d1⟩, hHeld.low⟩
set_option maxHeartbeats 6400000 in
theorem DrawCrackDays_any (v : Value) (Z : List Int) (w : World) (hZ : Z.length ≤ 1048576) (hu : U8Old w.heap.size w v Z) :
    Calls Tryd.prog 12 #[v] w fun e w' => ∃ x y z h q d, e = .returned (.tuple #[.agg #[.string ⟨#[115, 97]⟩, .int .i64 x, .int .i64 y, .int .i64 z], .int .i64 h, .int .i64 q, .int .i64 d]) ∧ (-1 ≤ x ∧ x ≤ 40000) ∧ (-1 ≤ y ∧ y ≤ 40000) ∧ (-1 ≤ z ∧ z ≤ 40000) ∧ (-1 ≤ h ∧ h ≤ 1001) ∧ (-1 ≤ q ∧ q ≤ 1001) ∧ (-1 ≤ d ∧ d ≤ 4001) ∧ Below w.heap.size w w' := by
  have hA : Below w.heap.size w (w.alloc (.cells #[.string ⟨#[]⟩, .int .i64 0, .int .i64 0, .int .i64 0] 25)) := (Below.refl _ _).alloc (Nat.le_refl _) _
  obtain ⟨W0, hW0⟩ : ∃ W0, W0 = w.alloc (.cells #[.string ⟨#[]⟩, .int .i64 0, .int .i64 0, .int .i64 0] 25) := ⟨_, rfl⟩
  have hR0 : W0.heap[w.heap.size]? = some (.cells #[.string ⟨#[]⟩, .int .i64 0, .int .i64 0, .int .i64 0] 25) := by rw [hW0]; exact heap_alloc_new w _
  have zR0 : w.heap.size < W0.heap.size := lt_some hR0
  rw [← hW0] at hA
  have q0 := from_any v Z W0 (u8_at hu (Nat.le_of_lt zR0) hA)
  have q1 := Lib.hid (fun b W (hb : w.heap.size ≤ b) => l04DrawOne_any ⟨#[115, 97]⟩ b w.heap.size 0 v Z W hb (by decide) hZ)
  have q2 := Lib.hid (fun b n W (hb : w.heap.size ≤ b) (hn : n ≤ 50) x y z => l04Bent_any ⟨#[115, 97]⟩ x y z b w.heap.size n v Z W hb hn hZ)
  have q3 := Lib.hid (fun b n W (hb : w.heap.size ≤ b) (hn : n ≤ 50) => l04DrawShare_any b w.heap.size n v Z W hb hn hZ)
  have q5 := Lib.hid (fun b n W (hb : w.heap.size ≤ b) (hn : n ≤ 50) => l04DrawDays_any b w.heap.size n v Z W hb hn hZ)
  have hA' := Lib.hid hA
  have hu' := Lib.hid hu
  have hW0' := Lib.hid hW0
  clear hu hA
  go_enter Tryd.func12, Tryd.ntmps12
  go_wp2_with fail
  rw [← hW0]
  clear hW0
  refine q0.out.mono ?_
  rintro e w1 ⟨b, rfl, hb, s1, u1, g1⟩
  have hR1 := (g1.block w.heap.size zR0).trans hR0
  have zR1 := lt_some hR1
  have G1 := Lib.hid (below2 hA'.out g1)
  have uw := hu'.out.below G1.out
  have hbw : w.heap.size ≤ b := by omega
  have zW : W0.heap.size ≤ w1.heap.size := g1.size
  have p1 := Lib.hid (q1.out b w1 hbw s1 uw)
  clear s1 u1 uw g1 q0 q1 hR0
  go_wp2_with fail
  refine p1.out.mono ?_
  rintro e w2 ⟨x1, y1, z1, m1, rfl, hx1, hy1, hz1, hm1, s2, u2, g2⟩
  have hR2 := (g2.block w.heap.size zR1 (by intro h; injection h; omega)).trans hR1
  have zR2 := lt_some hR2
  have G2 := Lib.hid (below_grow G1.out G1.out.size g2 hbw)
  have zW2 := Nat.le_trans zW g2.size
  have p2 := Lib.hid (q2.out b m1 w2 hbw (by omega) x1 y1 z1 hx1 hy1 hz1 s2 u2)
  clear s2 u2 g2 p1 q2 hR1 G1 hx1 hy1 hz1
  go_wp2_with fail
  refine p2.out.mono ?_
  rintro e w3 ⟨x, y, z, m2, rfl, hx, hy, hz, hm2, s3, u3, g3⟩
  have hR3 := (g3.block w.heap.size zR2 (by intro h; injection h; omega)).trans hR2
  have zR3 := lt_some hR3
  have G3 := Lib.hid (below_grow G2.out G2.out.size g3 hbw)
  have zW3 := Nat.le_trans zW2 g3.size
  have p3 := Lib.hid (fun X => q3.out b m2 (w3.alloc X) hbw (by omega) (src_alloc s3 _) (u8_alloc u3 _))
  have hbw3 : b < w3.heap.size := s3.1
  clear s3 u3 g3 p2 q3 hR2 G2
  go_wp2_with fail
  refine (p3.out _).mono ?_
  rintro e w4 ⟨h, m3, rfl, h0, h1, hm3, s4, u4, g4⟩
  have hX5 := (g4.block w3.heap.size (by simp) (by intro h; injection h; omega)).trans (heap_alloc_new w3 _)
  have hR5 := (g4.block w.heap.size (by simp; omega) (by intro h; injection h; omega)).trans ((Below.heap_alloc _ _ _ zR3).trans hR3)
  have G5 := Lib.hid (below_grow (G3.out.alloc (by have := G3.out.size; omega) _) (by have := G3.out.size; simp; omega) g4 hbw)
  have p5 := Lib.hid (fun C t => (among_alloc [0, 1, 2, 5, 20, 1000, 1001, -1] (by decide) (by decide) C t b w.heap.size m3 v Z w4 hbw (by omega) hZ s4 u4))
  have zX5 := lt_some hX5
  have zR5 := lt_some hR5
  clear s4 u4 g4 p3 hR3 G3
  go_wp2_with fail
  refine (p5.out _ _ rfl).mono ?_
  rintro e w6 ⟨q, rfl, hq0, s6, u6, g6⟩
  have hq : -1 ≤ q ∧ q ≤ 1001 := by
    simp only [List.mem_cons, List.mem_nil_iff, or_false] at hq0
    omega
  clear hq0
  have hX4 := (g6.block w3.heap.size zX5 (by intro h; injection h; omega)).trans hX5
  have hR4 := (g6.block w.heap.size zR5 (by intro h; injection h; omega)).trans hR5
  have G4 := Lib.hid (below_grow G5.out G5.out.size g6 hbw)
  have q4 := Lib.hid (And.intro s6 u6)
  have zX4 := lt_some hX4
  have zR4 := lt_some hR4
  have hXb : w3.heap.size ≠ b := by omega
  have hRb : w.heap.size ≠ b := by omega
  have hRX : w.heap.size ≠ w3.heap.size := by omega
  have hXR : w3.heap.size ≠ w.heap.size := by omega
  have qd := Lib.hid (fun m W (hm : m ≤ 50) => q5.out b m W hbw hm)
  have cX0 : w6.cell? ⟨w3.heap.size, 0, none⟩ = some (.string ⟨#[115, 97]⟩) := cellB hX4 0 _ rfl
  have fX0 := freeB hX4 0
  have cX1 : w6.cell? ⟨w3.heap.size, 1, none⟩ = some (.int .i64 x) := cellB hX4 1 _ rfl
  have fX1 := freeB hX4 1
  have cX2 : w6.cell? ⟨w3.heap.size, 2, none⟩ = some (.int .i64 y) := cellB hX4 2 _ rfl
  have fX2 := freeB hX4 2
  have cX3 : w6.cell? ⟨w3.heap.size, 3, none⟩ = some (.int .i64 z) := cellB hX4 3 _ rfl
  have fX3 := freeB hX4 3
  have cR0 : w6.cell? ⟨w.heap.size, 0, none⟩ = some (.string ⟨#[]⟩) := cellB hR4 0 _ rfl
  have fR0 := freeB hR4 0
  have cR1 : w6.cell? ⟨w.heap.size, 1, none⟩ = some (.int .i64 0) := cellB hR4 1 _ rfl
  have fR1 := freeB hR4 1
  have cR2 : w6.cell? ⟨w.heap.size, 2, none⟩ = some (.int .i64 0) := cellB hR4 2 _ rfl
  have fR2 := freeB hR4 2
  have cR3 : w6.cell? ⟨w.heap.size, 3, none⟩ = some (.int .i64 0) := cellB hR4 3 _ rfl
  have fR3 := freeB hR4 3
  have hS0 : DrS b w3.heap.size w.heap.size x y z w w6.drew := ⟨cX0, cX1, cX2, cX3, fun i hi => by
      match i, hi with
      | 0, _ => exact ⟨⟨_, cR0⟩, fR0⟩
      | 1, _ => exact ⟨⟨_, cR1⟩, fR1⟩
      | 2, _ => exact ⟨⟨_, cR2⟩, fR2⟩
      | 3, _ => exact ⟨⟨_, cR3⟩, fR3⟩, belowN G4.out 1, hXb, hRb, hXR, ⟨Nat.le_refl _, hbw⟩⟩
  have q4d : SrcAt w6.drew b v (m3 + 1) ∧ U8Old w.heap.size w6.drew v Z := q4.out
  have hm4 : (m3 + 1) ≤ 50 := by omega
  clear s6 u6 g6 p5 hX5 hR5 G5 q5 hX4 hR4 hm1 hm2
  clear cX0 cX1 cX2 cX3 cR0 cR1 cR2 cR3 fX0 fX1 fX2 fX3 fR0 fR1 fR2 fR3
  go_wp2
  refine wp_region_noPanic ?_
  refine wp_region_held_drew (S := (fun w' => DrS b w3.heap.size w.heap.size x y z w w')) (by kernel_rfl) ?_ (fun hHeld => ?_)
  · exact hS0
  refine wpAnyH_take (i := 0) (oi := ⟨some 21, _, _, _, _, _⟩) (v := ?vvz11) rfl (by kernel_rfl) (by kernel_rfl) (by kernel_rfl) (fun _ _ _ h => h) (Or.inl ⟨by rfl, ?hyz11⟩) (by assumption) ?restz11
  case hyz11 => (intro w hSw; (try dsimp only at hSw); have q0 := hSw.x0; have q1 := hSw.x1; have q2 := hSw.x2; have q3 := hSw.x3; go_simp; try with_reducible rfl)
  try simp only [Act.put, List.setIfInBounds_toArray, List.set_cons_zero, List.set_cons_succ]
  refine wpAnyH_take (i := 1) (oi := ⟨some 22, _, _, _, _, _⟩) (v := ?vvz12) rfl (by kernel_rfl) (by kernel_rfl) (by kernel_rfl) (fun _ _ _ h => h) (Or.inl ⟨by rfl, ?hyz12⟩) (by assumption) ?restz12
  case hyz12 => (intro w hSw; (try dsimp only at hSw); go_simp; try with_reducible rfl)
  try simp only [Act.put, List.setIfInBounds_toArray, List.set_cons_zero, List.set_cons_succ]
  refine wpAnyH_take (i := 2) (oi := ⟨some 23, _, _, _, _, _⟩) (v := ?vvz13) rfl (by kernel_rfl) (by kernel_rfl) (by kernel_rfl) (fun _ _ _ h => h) (Or.inl ⟨by rfl, ?hyz13⟩) (by assumption) ?restz13
  case hyz13 => (intro w hSw; (try dsimp only at hSw); go_simp; try with_reducible rfl)
  try simp only [Act.put, List.setIfInBounds_toArray, List.set_cons_zero, List.set_cons_succ]
  refine wpAnyH_take (i := 3) (oi := ⟨some 24, _, _, _, _, _⟩) (v := ?vvz14) rfl (by kernel_rfl) (by kernel_rfl) (by kernel_rfl) (fun _ _ _ h => h) (Or.inl ⟨by rfl, ?hyz14⟩) (by assumption) ?restz14
  case hyz14 => (intro w hSw; (try dsimp only at hSw); go_simp; try with_reducible rfl)
  try simp only [Act.put, List.setIfInBounds_toArray, List.set_cons_zero, List.set_cons_succ]
  refine wpAnyH_ready (rs := [4]) (by kernel_rfl) (by simp) ?_
  refine AllReadyH.cons (o := ⟨some 25, _, _, _, _, _⟩) rfl (fun K hK => ?_) AllReadyH.nil
  go_simp
  (go_at_call 19; (with_reducible refine (qd.out (m3 + 1) _ hm4 q4d.1 q4d.2).mono ?_); rintro e w5 ⟨d, m5, rfl, d0, d1, hm5, s5, u5, g5⟩; have hH5 := hHeld.after g5; clear s5 u5 g5)
  try go_wp2_with fail
  refine hK.out _ _ ?_ (fun hHeld2 => ?_)
  · exact hH5
  clear hK K hHeld
  have hHeld := hHeld2
  clear hHeld2 hH5
  try simp only [Act.put, List.setIfInBounds_toArray, List.set_cons_zero, List.set_cons_succ]
  refine wpAnyH_ready (rs := [5]) (by kernel_rfl) (by simp) ?_
  refine AllReadyH.cons (o := ⟨none, _, _, _, _, _⟩) rfl (fun K hK => ?_) AllReadyH.nil
  have hr0 := hHeld.room 0 (by omega)
  have hr1 := hHeld.room 1 (by omega)
  have hr2 := hHeld.room 2 (by omega)
  have hr3 := hHeld.room 3 (by omega)
  obtain ⟨⟨o0, cR0⟩, fR0⟩ := hr0
  obtain ⟨⟨o1, cR1⟩, fR1⟩ := hr1
  obtain ⟨⟨o2, cR2⟩, fR2⟩ := hr2
  obtain ⟨⟨o3, cR3⟩, fR3⟩ := hr3
  go_simp
  refine hK.out _ _ ?_ (fun hHeld2 => ?_)
  · exact (((hHeld.set 0 _).set 1 _).set 2 _).set 3 _
  clear hK K hHeld
  have hHeld := hHeld2
  clear hHeld2
  try simp only [Act.put, List.setIfInBounds_toArray, List.set_cons_zero, List.set_cons_succ]
  refine wpAnyH_take (i := 6) (oi := ⟨some 3, _, _, _, _, _⟩) (v := ?vvz15) rfl (by kernel_rfl) (by kernel_rfl) (by kernel_rfl) (fun _ _ _ h => h) (Or.inl ⟨by rfl, ?hyz15⟩) (by assumption) ?restz15
  case hyz15 => (intro w hSw; (try dsimp only at hSw); go_simp; try with_reducible rfl)
  try simp only [Act.put, List.setIfInBounds_toArray, List.set_cons_zero, List.set_cons_succ]
  refine wpAnyH_take (i := 7) (oi := ⟨some 4, _, _, _, _, _⟩) (v := ?vvz16) rfl (by kernel_rfl) (by kernel_rfl) (by kernel_rfl) (fun _ _ _ h => h) (Or.inl ⟨by rfl, ?hyz16⟩) (by assumption) ?restz16
  case hyz16 => (intro w hSw; (try dsimp only at hSw); go_simp; try with_reducible rfl)
  try simp only [Act.put, List.setIfInBounds_toArray, List.set_cons_zero, List.set_cons_succ]
  refine wpAnyH_take (i := 8) (oi := ⟨some 5, _, _, _, _, _⟩) (v := ?vvz17) rfl (by kernel_rfl) (by kernel_rfl) (by kernel_rfl) (fun _ _ _ h => h) (Or.inl ⟨by rfl, ?hyz17⟩) (by assumption) ?restz17
  case hyz17 => (intro w hSw; (try dsimp only at hSw); go_simp; try with_reducible rfl)
  try simp only [Act.put, List.setIfInBounds_toArray, List.set_cons_zero, List.set_cons_succ]
  refine wpAnyH_done (by kernel_rfl) ?_ _
  refine NoPanic.normal ?_
  clear hS0 q4d
  go_wp2
  exact bodyPost_ret (v := .tuple #[.agg #[.string ⟨#[115, 97]⟩, .int .i64 x, .int .i64 y, .int .i64 z], .int .i64 h, .int .i64 q, .int .i64 d]) (by simp [results, Tryd.results12, go_sem, cR0, cR1, cR2, cR3]) rfl ⟨x, y, z, h, q, d, rfl, hx, hy, hz, ⟨h0, h1⟩, hq, ⟨d0, d1⟩, hHeld.low⟩
end Go.Proofs.YtemccejlophmkaaDoor
