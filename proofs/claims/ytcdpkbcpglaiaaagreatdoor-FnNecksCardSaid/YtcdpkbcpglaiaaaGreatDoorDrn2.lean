/-
  The model's draws of a neck and numbers.
-/
import Derived.Test.YtcdpkbcpglaiaaaGreatDoorDrn
import Derived.Deep.RegionWith
import Derived.Deep.RegionHeld3
import Derived.WalkLawsBesides
namespace Go.Proofs.YtcdpkbcpglaiaaaGreatDoor
open Go.ChangeShapes Go.WideShapes Go.ChangeAt Go.RowKit Go.Deep
set_option linter.unusedVariables false
set_option maxRecDepth 1000000
set_option linter.unusedSimpArgs false
theorem u8_at {B : Nat} {w W : World} {v : Value} {Z : List Int} (h : U8Old B w v Z) (hB : B ≤ W.heap.size) (hb : Below w.heap.size w W) : U8Old W.heap.size W v Z := by
  obtain ⟨a, cap, h1, h2, h3, h4⟩ := h.below hb
  refine ⟨a, cap, h1, h2, h3, ?_⟩
  rcases h4 with h4 | ⟨g, o, e, hg0, hg, hc⟩
  · exact Or.inl h4
  · exact Or.inr ⟨g, o, e, hg, hg, hc⟩
theorem below_grow {B : Nat} {a w w' : World} {b : Nat} (h : Below B a w) (hB : B ≤ w.heap.size) (g : w.grownBy w' (some b)) (hb : B ≤ b) : Below B a w' := h.grown g hB (fun k hk => by injection hk with hk; omega)
/-- what a drawing return holds: the neck at X, room at R -/
structure DrN (b X R : Nat) (x1 x2 x3 x4 : Int) (w0 w : World) : Prop where
  c0 : w.cell? ⟨X, 0, none⟩ = some (.int .i64 x1)
  c1 : w.cell? ⟨X, 1, none⟩ = some (.int .i64 x2)
  c2 : w.cell? ⟨X, 2, none⟩ = some (.int .i64 x3)
  c3 : w.cell? ⟨X, 3, none⟩ = some (.int .i64 x4)
  room : ∀ i, i < 4 → (∃ u, w.cell? ⟨R, i, none⟩ = some u) ∧ w.frozen? ⟨R, i, none⟩ = false
  low : Below w0.heap.size w0 w
  xb : X ≠ b
  rb : R ≠ b
  xr : X ≠ R
  rl : w0.heap.size ≤ R ∧ w0.heap.size ≤ b
theorem DrN.after {b X R : Nat} {x1 x2 x3 x4 : Int} {w0 w w' : World} (h : DrN b X R x1 x2 x3 x4 w0 w) (g : w.grownBy w' (some b)) : DrN b X R x1 x2 x3 x4 w0 w' := by
  have kX : w'.heap[X]? = w.heap[X]? := g.block X (World.block_lt_of_cell? w _ h.c0) (fun e => h.xb (by injection e))
  have kR : w'.heap[R]? = w.heap[R]? := g.block R (by obtain ⟨⟨u, hu⟩, _⟩ := h.room 0 (by omega); exact World.block_lt_of_cell? w _ hu) (fun e => h.rb (by injection e))
  have hl := h.rl.2
  exact ⟨(cell_block kX).trans h.c0, (cell_block kX).trans h.c1, (cell_block kX).trans h.c2, (cell_block kX).trans h.c3, fun i hi => ⟨by rw [cell_block kR]; exact (h.room i hi).1, by rw [World.frozen?_of_block (a := ⟨R, i, none⟩) kR]; exact (h.room i hi).2⟩, h.low.grown g h.low.size (fun k hk => by injection hk with hk; omega), h.xb, h.rb, h.xr, h.rl⟩
theorem DrN.below {b X R : Nat} {x1 x2 x3 x4 : Int} {w0 w w' : World} (h : DrN b X R x1 x2 x3 x4 w0 w) (g : Below w.heap.size w w') : DrN b X R x1 x2 x3 x4 w0 w' := h.after (below_grown' g _)
theorem DrN.set {b X R : Nat} {x1 x2 x3 x4 : Int} {w0 w : World} (h : DrN b X R x1 x2 x3 x4 w0 w) (j : Nat) (u : Value) : DrN b X R x1 x2 x3 x4 w0 (w.setCell ⟨R, j, none⟩ u) := by
  have kX : (w.setCell ⟨R, j, none⟩ u).heap[X]? = w.heap[X]? := Below.heap_setCell _ _ _ X h.xr
  refine ⟨(cell_block kX).trans h.c0, (cell_block kX).trans h.c1, (cell_block kX).trans h.c2, (cell_block kX).trans h.c3, fun i hi => ?_, h.low.setCell (p := ⟨R, j, none⟩) h.rl.1 u, h.xb, h.rb, h.xr, h.rl⟩
  obtain ⟨⟨o, ho⟩, hf⟩ := h.room i hi
  refine ⟨?_, by rw [World.frozen?_setCell]; exact hf⟩
  by_cases e : i = j
  · subst e; exact ⟨_, World.cell?_setCell_same _ _ _ ho⟩
  · exact ⟨o, (World.cell?_setCell_other _ _ _ _ (by intro h; injection h with _ h2; exact e h2.symm)).trans ho⟩
theorem src_drew {w : World} {b n : Nat} {v : Value} (h : SrcAt w b v n) (k : Nat) : SrcAt (w.drewN k) b v n := h
theorem u8_drew {B : Nat} {w : World} {v : Value} {Z : List Int} (h : U8Old B w v Z) (k : Nat) : U8Old B (w.drewN k) v Z := h
theorem among_allocD (L : List Int) (h1 : 1 < L.length) (h2 : L.length ≤ 200) (C : Array Value) (t : TypeId) (b B n : Nat) (v : Value) (Z : List Int) (w : World) (hB : B ≤ b) (hn : n ≤ 90) (hZ : Z.length ≤ 1048576) (hs : SrcAt w b v n) (hu : U8Old B w v Z)
    (hC : (L.map fun x => Value.int .i64 x).toArray = C) :
    Calls Tryz.prog 29 #[.pointer (some ⟨b, 0, none⟩), .slice (some ⟨w.heap.size, 0, none⟩) L.length L.length] (w.alloc (.cells C t)).drew (AmRet L b B v Z (n + 1) (w.alloc (.cells C t)).drew) := by
  have hb : Below w.heap.size w (w.alloc (.cells C t)).drew := belowN ((Below.refl _ _).alloc (Nat.le_refl _) _) 1
  refine (among_any L h1 h2 w.heap.size b B n v Z (w.alloc (.cells C t)).drew hB hn hZ (hs.below hb) (hu.below hb) (by simp) (by have := hs.1; omega) (fun i hi => ?_)).mono ?_
  · have : (w.alloc (.cells C t)).drew.cell? ⟨w.heap.size, 0 + i, none⟩ = (w.alloc (.cells C t)).cell? ⟨w.heap.size, 0 + i, none⟩ := rfl
    first
      | (rw [this, World.cell?_alloc_mark, ← hC]; simp [hi])
      | (show (w.alloc (.cells C t)).cell? _ = _; rw [World.cell?_alloc_mark, ← hC]; simp [hi])
  · rintro e w' ⟨r, he, hr, s, u, g⟩
    exact ⟨r, he, hr, s, u, g⟩
set_option maxHeartbeats 6400000 in
theorem DrawAngleFor_any (v : Value) (Z : List Int) (w : World) (hZ : Z.length ≤ 1048576) (hu : U8Old w.heap.size w v Z) :
    Calls Tryz.prog 5 #[v] w fun e w' => ∃ x1 x2 x3 x4 h : Int, e = .returned (.tuple #[.agg #[.int .i64 x1, .int .i64 x2, .int .i64 x3, .int .i64 x4], .int .i64 h]) ∧ (-1 ≤ x1 ∧ x1 ≤ 20000) ∧ (-1 ≤ x2 ∧ x2 ≤ 20000) ∧ (-1 ≤ x3 ∧ x3 ≤ 20000) ∧ (-1 ≤ x4 ∧ x4 ≤ 20000) ∧ (-1 ≤ h ∧ h ≤ 2001) ∧ Below w.heap.size w w' := by
  have hA : Below w.heap.size w (w.alloc (.cells #[.int .i64 0, .int .i64 0, .int .i64 0, .int .i64 0] 25)) := (Below.refl _ _).alloc (Nat.le_refl _) _
  obtain ⟨W0, hW0⟩ : ∃ W0, W0 = w.alloc (.cells #[.int .i64 0, .int .i64 0, .int .i64 0, .int .i64 0] 25) := ⟨_, rfl⟩
  have hR0 : W0.heap[w.heap.size]? = some (.cells #[.int .i64 0, .int .i64 0, .int .i64 0, .int .i64 0] 25 (0, 0)) := by rw [hW0]; exact heap_alloc_new w _
  have zR0 : w.heap.size < W0.heap.size := lt_some hR0
  rw [← hW0] at hA
  have q0 := from_any v Z W0 (u8_at hu (Nat.le_of_lt zR0) hA)
  have q1 := Lib.hid (fun b W (hb : w.heap.size ≤ b) => l10Draw_any b w.heap.size 0 v Z W hb (by decide) hZ)
  have q3 := Lib.hid (fun b n W (hb : w.heap.size ≤ b) (hn : n ≤ 50) => l10DrawHeight_any b w.heap.size n v Z W hb hn hZ)
  have hA' := Lib.hid hA
  have hu' := Lib.hid hu
  clear hu hA
  go_enter Tryz.func5, Tryz.ntmps5
  go_wp2_with fail
  rw [← hW0]
  clear hW0
  refine q0.out.mono ?_
  rintro e w1 ⟨b, rfl, hb, s1, u1, g1⟩
  have hR1 := (g1.block w.heap.size zR0).trans hR0
  have zR1 := lt_some hR1
  have G1 := Lib.hid (below2 hA'.out g1)
  have uw := hu'.out.below G1.out
  have hbw : w.heap.size ≤ b := by omega
  have p1 := Lib.hid (q1.out b w1 hbw s1 uw)
  have hRb : w.heap.size ≠ b := by omega
  have hb1 : b < w1.heap.size := s1.1
  clear s1 u1 uw g1 q0 q1 hR0 hb
  go_wp2_with fail
  refine p1.out.mono ?_
  rintro e w2 ⟨x1, x2, x3, x4, m1, rfl, hx1, hx2, hx3, hx4, hm1, s2, u2, g2⟩
  have hR2 := (g2.block w.heap.size zR1 (by intro h; injection h; omega)).trans hR1
  have zR2 := lt_some hR2
  have G2 := Lib.hid (below_grow G1.out G1.out.size g2 hbw)
  have hXb : w2.heap.size ≠ b := by have := s2.1; omega
  have hXR : w2.heap.size ≠ w.heap.size := by omega
  have s3 := src_alloc s2 (.cells #[.int .i64 x1, .int .i64 x2, .int .i64 x3, .int .i64 x4] 25)
  have u3 := u8_alloc u2 (.cells #[.int .i64 x1, .int .i64 x2, .int .i64 x3, .int .i64 x4] 25)
  have hX3 := heap_alloc_new w2 (.cells #[.int .i64 x1, .int .i64 x2, .int .i64 x3, .int .i64 x4] 25)
  have hR3 := (Below.heap_alloc w2 (.cells #[.int .i64 x1, .int .i64 x2, .int .i64 x3, .int .i64 x4] 25) _ zR2).trans hR2
  have G3 := Lib.hid (G2.out.alloc (by have := G2.out.size; omega) (.cells #[.int .i64 x1, .int .i64 x2, .int .i64 x3, .int .i64 x4] 25))
  have zX3 : w2.heap.size < (w2.alloc (.cells #[.int .i64 x1, .int .i64 x2, .int .i64 x3, .int .i64 x4] 25)).heap.size := by simp
  clear s2 u2 g2 p1 hR1 hR2 G1 G2
  go_wp2_with fail
  generalize w2.alloc (.cells #[.int .i64 x1, .int .i64 x2, .int .i64 x3, .int .i64 x4] 25) = w3 at hX3 hR3 s3 u3 G3 zX3 ⊢
  have cX0 := cellB hX3 0 _ rfl
  have fX0 := freeB hX3 0
  have cX1 := cellB hX3 1 _ rfl
  have fX1 := freeB hX3 1
  have cX2 := cellB hX3 2 _ rfl
  have fX2 := freeB hX3 2
  have cX3 := cellB hX3 3 _ rfl
  have fX3 := freeB hX3 3
  have cR0 := cellB hR3 0 _ rfl
  have fR0 := freeB hR3 0
  have cR1 := cellB hR3 1 _ rfl
  have fR1 := freeB hR3 1
  have cR2 := cellB hR3 2 _ rfl
  have fR2 := freeB hR3 2
  have cR3 := cellB hR3 3 _ rfl
  have fR3 := freeB hR3 3
  have hS0 : DrN b w2.heap.size w.heap.size x1 x2 x3 x4 w w3.drew := ⟨cX0, cX1, cX2, cX3, fun i hi => by
      match i, hi with
      | 0, _ => exact ⟨⟨_, cR0⟩, fR0⟩
      | 1, _ => exact ⟨⟨_, cR1⟩, fR1⟩
      | 2, _ => exact ⟨⟨_, cR2⟩, fR2⟩
      | 3, _ => exact ⟨⟨_, cR3⟩, fR3⟩, belowN G3.out 1, hXb, hRb, hXR, ⟨Nat.le_refl _, hbw⟩⟩
  have hsu : Hid (SrcAt w3.drew b v m1 ∧ U8Old w.heap.size w3.drew v Z) := Lib.hid (And.intro s3 u3)
  have hmm : m1 ≤ 50 := by omega
  clear s3 u3 hX3 hR3
  clear cX0 cX1 cX2 cX3 cR0 cR1 cR2 cR3 fX0 fX1 fX2 fX3 fR0 fR1 fR2 fR3
  refine wp_region_noPanic ?_
  refine wp_region_held_drew (S := (fun w' => DrN b w2.heap.size w.heap.size x1 x2 x3 x4 w w')) (by kernel_rfl) ?_ (fun hHeld => ?_)
  · exact hS0
  refine wpAnyH_take (i := 0) (oi := ⟨some 10, _, _, _, _, _⟩) (v := ?vvk1) rfl (by kernel_rfl) (by kernel_rfl) (by kernel_rfl) (fun _ _ _ h => h) (Or.inl ⟨by rfl, ?hyk1⟩) (by assumption) ?restk1
  case hyk1 => (intro w hSw; (try dsimp only at hSw); have q0 := hSw.c0; have q1 := hSw.c1; have q2 := hSw.c2; have q3 := hSw.c3; go_simp; try with_reducible rfl)
  try simp only [Act.put, List.setIfInBounds_toArray, List.set_cons_zero, List.set_cons_succ]
  refine wpAnyH_take (i := 1) (oi := ⟨some 11, _, _, _, _, _⟩) (v := ?vvk2) rfl (by kernel_rfl) (by kernel_rfl) (by kernel_rfl) (fun _ _ _ h => h) (Or.inl ⟨by rfl, ?hyk2⟩) (by assumption) ?restk2
  case hyk2 => (intro w hSw; (try dsimp only at hSw); go_simp; try with_reducible rfl)
  try simp only [Act.put, List.setIfInBounds_toArray, List.set_cons_zero, List.set_cons_succ]
  refine wpAnyH_ready (rs := [2]) (by kernel_rfl) (by simp) ?_
  refine AllReadyH.cons (o := ⟨some 12, _, _, _, _, _⟩) rfl (fun K hK => ?_) AllReadyH.nil
  go_simp
  (go_at_call 21; (with_reducible refine (q3.out b m1 _ hbw hmm hsu.out.1 hsu.out.2).mono ?_); rintro e w5 ⟨h, m5, rfl, h0, h1, hm5, s5, u5, g5⟩; have hH5 := hHeld.after g5; clear s5 u5 g5)
  try go_wp2_with fail
  refine hK.out _ _ ?_ (fun hHeld2 => ?_)
  · exact hH5
  clear hK K hHeld
  have hHeld := hHeld2
  clear hHeld2
  try simp only [Act.put, List.setIfInBounds_toArray, List.set_cons_zero, List.set_cons_succ]
  refine wpAnyH_ready (rs := [3]) (by kernel_rfl) (by simp) ?_
  refine AllReadyH.cons (o := ⟨none, _, _, _, _, _⟩) rfl (fun K hK => ?_) AllReadyH.nil
  have hr0 := hHeld.room 0 (by omega)
  have hr1 := hHeld.room 1 (by omega)
  have hr2 := hHeld.room 2 (by omega)
  have hr3 := hHeld.room 3 (by omega)
  obtain ⟨⟨o0, cR0⟩, fR0⟩ := hr0
  obtain ⟨⟨o1, cR1⟩, fR1⟩ := hr1
  obtain ⟨⟨o2, cR2⟩, fR2⟩ := hr2
  obtain ⟨⟨o3, cR3⟩, fR3⟩ := hr3
  go_simp
  refine hK.out _ _ ?_ (fun hHeld2 => ?_)
  · exact (((hHeld.set 0 _).set 1 _).set 2 _).set 3 _
  clear hK K hHeld
  have hHeld := hHeld2
  clear hHeld2
  try simp only [Act.put, List.setIfInBounds_toArray, List.set_cons_zero, List.set_cons_succ]
  refine wpAnyH_take (i := 4) (oi := ⟨some 3, _, _, _, _, _⟩) (v := ?vvk3) rfl (by kernel_rfl) (by kernel_rfl) (by kernel_rfl) (fun _ _ _ h => h) (Or.inl ⟨by rfl, ?hyk3⟩) (by assumption) ?restk3
  case hyk3 => (intro w hSw; (try dsimp only at hSw); go_simp; try with_reducible rfl)
  try simp only [Act.put, List.setIfInBounds_toArray, List.set_cons_zero, List.set_cons_succ]
  refine wpAnyH_done (by kernel_rfl) ?_ _
  refine NoPanic.normal ?_
  clear hS0 hsu
  go_wp2
  exact bodyPost_ret (v := .tuple #[.agg #[.int .i64 x1, .int .i64 x2, .int .i64 x3, .int .i64 x4], .int .i64 h]) (by simp [results, Tryz.results5, go_sem, cR0, cR1, cR2, cR3]) rfl ⟨x1, x2, x3, x4, h, rfl, hx1, hx2, hx3, hx4, ⟨h0, h1⟩, hHeld.low⟩
set_option maxHeartbeats 6400000 in
theorem DrawShimFor_any (v : Value) (Z : List Int) (w : World) (hZ : Z.length ≤ 1048576) (hu : U8Old w.heap.size w v Z) :
    Calls Tryz.prog 8 #[v] w fun e w' => ∃ x1 x2 x3 x4 h d : Int, e = .returned (.tuple #[.agg #[.int .i64 x1, .int .i64 x2, .int .i64 x3, .int .i64 x4], .int .i64 h, .int .i64 d]) ∧ (-1 ≤ x1 ∧ x1 ≤ 20000) ∧ (-1 ≤ x2 ∧ x2 ≤ 20000) ∧ (-1 ≤ x3 ∧ x3 ≤ 20000) ∧ (-1 ≤ x4 ∧ x4 ≤ 20000) ∧ (-1 ≤ h ∧ h ≤ 2001) ∧ (0 ≤ d ∧ d ≤ 1001) ∧ Below w.heap.size w w' := by
  have hA : Below w.heap.size w (w.alloc (.cells #[.int .i64 0, .int .i64 0, .int .i64 0, .int .i64 0] 25)) := (Below.refl _ _).alloc (Nat.le_refl _) _
  obtain ⟨W0, hW0⟩ : ∃ W0, W0 = w.alloc (.cells #[.int .i64 0, .int .i64 0, .int .i64 0, .int .i64 0] 25) := ⟨_, rfl⟩
  have hR0 : W0.heap[w.heap.size]? = some (.cells #[.int .i64 0, .int .i64 0, .int .i64 0, .int .i64 0] 25 (0, 0)) := by rw [hW0]; exact heap_alloc_new w _
  have zR0 : w.heap.size < W0.heap.size := lt_some hR0
  rw [← hW0] at hA
  have q0 := from_any v Z W0 (u8_at hu (Nat.le_of_lt zR0) hA)
  have q1 := Lib.hid (fun b W (hb : w.heap.size ≤ b) => l10Draw_any b w.heap.size 0 v Z W hb (by decide) hZ)
  have q3 := Lib.hid (fun b n W (hb : w.heap.size ≤ b) (hn : n ≤ 50) => l10DrawHeight_any b w.heap.size n v Z W hb hn hZ)
  have hA' := Lib.hid hA
  have hu' := Lib.hid hu
  clear hu hA
  go_enter Tryz.func8, Tryz.ntmps8
  go_wp2_with fail
  rw [← hW0]
  clear hW0
  refine q0.out.mono ?_
  rintro e w1 ⟨b, rfl, hb, s1, u1, g1⟩
  have hR1 := (g1.block w.heap.size zR0).trans hR0
  have zR1 := lt_some hR1
  have G1 := Lib.hid (below2 hA'.out g1)
  have uw := hu'.out.below G1.out
  have hbw : w.heap.size ≤ b := by omega
  have p1 := Lib.hid (q1.out b w1 hbw s1 uw)
  have hRb : w.heap.size ≠ b := by omega
  have hb1 : b < w1.heap.size := s1.1
  clear s1 u1 uw g1 q0 q1 hR0 hb
  go_wp2_with fail
  refine p1.out.mono ?_
  rintro e w2 ⟨x1, x2, x3, x4, m1, rfl, hx1, hx2, hx3, hx4, hm1, s2, u2, g2⟩
  have hR2 := (g2.block w.heap.size zR1 (by intro h; injection h; omega)).trans hR1
  have zR2 := lt_some hR2
  have G2 := Lib.hid (below_grow G1.out G1.out.size g2 hbw)
  have hXb : w2.heap.size ≠ b := by have := s2.1; omega
  have hXR : w2.heap.size ≠ w.heap.size := by omega
  have s3 := src_alloc s2 (.cells #[.int .i64 x1, .int .i64 x2, .int .i64 x3, .int .i64 x4] 25)
  have u3 := u8_alloc u2 (.cells #[.int .i64 x1, .int .i64 x2, .int .i64 x3, .int .i64 x4] 25)
  have hX3 := heap_alloc_new w2 (.cells #[.int .i64 x1, .int .i64 x2, .int .i64 x3, .int .i64 x4] 25)
  have hR3 := (Below.heap_alloc w2 (.cells #[.int .i64 x1, .int .i64 x2, .int .i64 x3, .int .i64 x4] 25) _ zR2).trans hR2
  have G3 := Lib.hid (G2.out.alloc (by have := G2.out.size; omega) (.cells #[.int .i64 x1, .int .i64 x2, .int .i64 x3, .int .i64 x4] 25))
  have zX3 : w2.heap.size < (w2.alloc (.cells #[.int .i64 x1, .int .i64 x2, .int .i64 x3, .int .i64 x4] 25)).heap.size := by simp
  clear s2 u2 g2 p1 hR1 hR2 G1 G2
  go_wp2_with fail
  generalize w2.alloc (.cells #[.int .i64 x1, .int .i64 x2, .int .i64 x3, .int .i64 x4] 25) = w3 at hX3 hR3 s3 u3 G3 zX3 ⊢
  have p3 := Lib.hid (q3.out b m1 w3 hbw (by omega) s3 u3)
  clear q3 s3 u3
  refine p3.out.mono ?_
  rintro e w4 ⟨h, m3, rfl, h0, h1, hm3, s4, u4, g4⟩
  have hX4 := (g4.block w2.heap.size zX3 (by intro h; injection h; omega)).trans hX3
  have hR4 := (g4.block w.heap.size (by omega) (by intro h; injection h; omega)).trans hR3
  have G4 := Lib.hid (below_grow G3.out G3.out.size g4 hbw)
  clear p3 g4 hX3 hR3 G3 zX3
  go_wp2
  have cX0 := cellB hX4 0 _ rfl
  have fX0 := freeB hX4 0
  have cX1 := cellB hX4 1 _ rfl
  have fX1 := freeB hX4 1
  have cX2 := cellB hX4 2 _ rfl
  have fX2 := freeB hX4 2
  have cX3 := cellB hX4 3 _ rfl
  have fX3 := freeB hX4 3
  have cR0 := cellB hR4 0 _ rfl
  have fR0 := freeB hR4 0
  have cR1 := cellB hR4 1 _ rfl
  have fR1 := freeB hR4 1
  have cR2 := cellB hR4 2 _ rfl
  have fR2 := freeB hR4 2
  have cR3 := cellB hR4 3 _ rfl
  have fR3 := freeB hR4 3
  have hS0 : DrN b w2.heap.size w.heap.size x1 x2 x3 x4 w w4.drew := ⟨cX0, cX1, cX2, cX3, fun i hi => by
      match i, hi with
      | 0, _ => exact ⟨⟨_, cR0⟩, fR0⟩
      | 1, _ => exact ⟨⟨_, cR1⟩, fR1⟩
      | 2, _ => exact ⟨⟨_, cR2⟩, fR2⟩
      | 3, _ => exact ⟨⟨_, cR3⟩, fR3⟩, belowN G4.out 1, hXb, hRb, hXR, ⟨Nat.le_refl _, hbw⟩⟩
  have hsu : Hid (SrcAt w4.drew b v m3 ∧ U8Old w.heap.size w4.drew v Z) := Lib.hid (And.intro s4 u4)
  have cAm := Lib.hid (among_allocD [0, 1, 60, 250, 1000, 1001] (by decide) (by decide) _ 2 b w.heap.size m3 v Z w4 hbw (by omega) hZ s4 u4 rfl)
  simp only [List.map_cons, List.map_nil, List.length_cons, List.length_nil, Nat.reduceAdd] at cAm
  have hmm : m3 ≤ 50 := by omega
  clear s4 u4 hX4 hR4
  clear cX0 cX1 cX2 cX3 cR0 cR1 cR2 cR3 fX0 fX1 fX2 fX3 fR0 fR1 fR2 fR3
  refine wp_region_noPanic ?_
  refine wp_region_held_drew (S := (fun w' => DrN b w2.heap.size w.heap.size x1 x2 x3 x4 w w')) (by kernel_rfl) ?_ (fun hHeld => ?_)
  · exact hS0
  refine wpAnyH_take (i := 0) (oi := ⟨some 14, _, _, _, _, _⟩) (v := ?vvk4) rfl (by kernel_rfl) (by kernel_rfl) (by kernel_rfl) (fun _ _ _ h => h) (Or.inl ⟨by rfl, ?hyk4⟩) (by assumption) ?restk4
  case hyk4 => (intro w hSw; (try dsimp only at hSw); have q0 := hSw.c0; have q1 := hSw.c1; have q2 := hSw.c2; have q3 := hSw.c3; go_simp; try with_reducible rfl)
  try simp only [Act.put, List.setIfInBounds_toArray, List.set_cons_zero, List.set_cons_succ]
  refine wpAnyH_take (i := 1) (oi := ⟨some 15, _, _, _, _, _⟩) (v := ?vvk5) rfl (by kernel_rfl) (by kernel_rfl) (by kernel_rfl) (fun _ _ _ h => h) (Or.inl ⟨by rfl, ?hyk5⟩) (by assumption) ?restk5
  case hyk5 => (intro w hSw; (try dsimp only at hSw); go_simp; try with_reducible rfl)
  try simp only [Act.put, List.setIfInBounds_toArray, List.set_cons_zero, List.set_cons_succ]
  refine wpAnyH_take (i := 2) (oi := ⟨some 16, _, _, _, _, _⟩) (v := ?vvk6) rfl (by kernel_rfl) (by kernel_rfl) (by kernel_rfl) (fun _ _ _ h => h) (Or.inl ⟨by rfl, ?hyk6⟩) (by assumption) ?restk6
  case hyk6 => (intro w hSw; (try dsimp only at hSw); go_simp; try with_reducible rfl)
  try simp only [Act.put, List.setIfInBounds_toArray, List.set_cons_zero, List.set_cons_succ]
  refine wpAnyH_ready (rs := [3]) (by kernel_rfl) (by simp) ?_
  refine AllReadyH.cons (o := ⟨some 17, _, _, _, _, _⟩) rfl (fun K hK => ?_) AllReadyH.nil
  go_simp
  try go_wp2_with fail
  refine hK.out _ _ ?_ (fun hHeld2 => ?_)
  · exact hHeld.below ((Below.refl _ _).alloc (Nat.le_refl _) _)
  clear hK K hHeld
  have hHeld := hHeld2
  clear hHeld2
  try simp only [Act.put, List.setIfInBounds_toArray, List.set_cons_zero, List.set_cons_succ]
  refine wpAnyH_ready (rs := [4]) (by kernel_rfl) (by simp) ?_
  refine AllReadyH.cons (o := ⟨some 18, _, _, _, _, _⟩) rfl (fun K hK => ?_) AllReadyH.nil
  go_simp
  skip
  (go_at_call 29; (with_reducible refine cAm.out.mono ?_); rintro e w5 ⟨d, rfl, hd0, s5, u5, g5⟩; have hH5 := hHeld.after g5; clear s5 u5 g5)
  try go_wp2_with fail
  refine hK.out _ _ ?_ (fun hHeld2 => ?_)
  · exact hH5
  clear hK K hHeld
  have hHeld := hHeld2
  clear hHeld2
  try simp only [Act.put, List.setIfInBounds_toArray, List.set_cons_zero, List.set_cons_succ]
  refine wpAnyH_ready (rs := [5]) (by kernel_rfl) (by simp) ?_
  refine AllReadyH.cons (o := ⟨none, _, _, _, _, _⟩) rfl (fun K hK => ?_) AllReadyH.nil
  have hr0 := hHeld.room 0 (by omega)
  have hr1 := hHeld.room 1 (by omega)
  have hr2 := hHeld.room 2 (by omega)
  have hr3 := hHeld.room 3 (by omega)
  obtain ⟨⟨o0, cR0⟩, fR0⟩ := hr0
  obtain ⟨⟨o1, cR1⟩, fR1⟩ := hr1
  obtain ⟨⟨o2, cR2⟩, fR2⟩ := hr2
  obtain ⟨⟨o3, cR3⟩, fR3⟩ := hr3
  go_simp
  refine hK.out _ _ ?_ (fun hHeld2 => ?_)
  · exact (((hHeld.set 0 _).set 1 _).set 2 _).set 3 _
  clear hK K hHeld
  have hHeld := hHeld2
  clear hHeld2
  try simp only [Act.put, List.setIfInBounds_toArray, List.set_cons_zero, List.set_cons_succ]
  refine wpAnyH_take (i := 6) (oi := ⟨some 3, _, _, _, _, _⟩) (v := ?vvk7) rfl (by kernel_rfl) (by kernel_rfl) (by kernel_rfl) (fun _ _ _ h => h) (Or.inl ⟨by rfl, ?hyk7⟩) (by assumption) ?restk7
  case hyk7 => (intro w hSw; (try dsimp only at hSw); go_simp; try with_reducible rfl)
  try simp only [Act.put, List.setIfInBounds_toArray, List.set_cons_zero, List.set_cons_succ]
  refine wpAnyH_take (i := 7) (oi := ⟨some 4, _, _, _, _, _⟩) (v := ?vvk8) rfl (by kernel_rfl) (by kernel_rfl) (by kernel_rfl) (fun _ _ _ h => h) (Or.inl ⟨by rfl, ?hyk8⟩) (by assumption) ?restk8
  case hyk8 => (intro w hSw; (try dsimp only at hSw); go_simp; try with_reducible rfl)
  try simp only [Act.put, List.setIfInBounds_toArray, List.set_cons_zero, List.set_cons_succ]
  refine wpAnyH_done (by kernel_rfl) ?_ _
  refine NoPanic.normal ?_
  clear hS0 hsu
  have hd1 : 0 ≤ d ∧ d ≤ 1001 := by
    simp only [List.mem_cons, List.mem_nil_iff, or_false] at hd0
    omega
  go_wp2
  exact bodyPost_ret (v := .tuple #[.agg #[.int .i64 x1, .int .i64 x2, .int .i64 x3, .int .i64 x4], .int .i64 h, .int .i64 d]) (by simp [results, Tryz.results8, go_sem, cR0, cR1, cR2, cR3]) rfl ⟨x1, x2, x3, x4, h, d, rfl, hx1, hx2, hx3, hx4, ⟨h0, h1⟩, hd1, hHeld.low⟩
set_option maxHeartbeats 6400000 in
theorem DrawBridgeFor_any (v : Value) (Z : List Int) (w : World) (hZ : Z.length ≤ 1048576) (hu : U8Old w.heap.size w v Z) :
    Calls Tryz.prog 11 #[v] w fun e w' => ∃ x1 x2 x3 x4 d : Int, e = .returned (.tuple #[.agg #[.int .i64 x1, .int .i64 x2, .int .i64 x3, .int .i64 x4], .int .i64 d]) ∧ (-1 ≤ x1 ∧ x1 ≤ 20000) ∧ (-1 ≤ x2 ∧ x2 ≤ 20000) ∧ (-1 ≤ x3 ∧ x3 ≤ 20000) ∧ (-1 ≤ x4 ∧ x4 ≤ 20000) ∧ (-1 ≤ d ∧ d ≤ 1001) ∧ Below w.heap.size w w' := by
  have hA : Below w.heap.size w (w.alloc (.cells #[.int .i64 0, .int .i64 0, .int .i64 0, .int .i64 0] 25)) := (Below.refl _ _).alloc (Nat.le_refl _) _
  obtain ⟨W0, hW0⟩ : ∃ W0, W0 = w.alloc (.cells #[.int .i64 0, .int .i64 0, .int .i64 0, .int .i64 0] 25) := ⟨_, rfl⟩
  have hR0 : W0.heap[w.heap.size]? = some (.cells #[.int .i64 0, .int .i64 0, .int .i64 0, .int .i64 0] 25 (0, 0)) := by rw [hW0]; exact heap_alloc_new w _
  have zR0 : w.heap.size < W0.heap.size := lt_some hR0
  rw [← hW0] at hA
  have q0 := from_any v Z W0 (u8_at hu (Nat.le_of_lt zR0) hA)
  have q1 := Lib.hid (fun b W (hb : w.heap.size ≤ b) => l10Draw_any b w.heap.size 0 v Z W hb (by decide) hZ)
  have q3 := Lib.hid (fun b n W (hb : w.heap.size ≤ b) (hn : n ≤ 50) => l10DrawHeight_any b w.heap.size n v Z W hb hn hZ)
  have hA' := Lib.hid hA
  have hu' := Lib.hid hu
  clear hu hA
  go_enter Tryz.func11, Tryz.ntmps11
  go_wp2_with fail
  rw [← hW0]
  clear hW0
  refine q0.out.mono ?_
  rintro e w1 ⟨b, rfl, hb, s1, u1, g1⟩
  have hR1 := (g1.block w.heap.size zR0).trans hR0
  have zR1 := lt_some hR1
  have G1 := Lib.hid (below2 hA'.out g1)
  have uw := hu'.out.below G1.out
  have hbw : w.heap.size ≤ b := by omega
  have p1 := Lib.hid (q1.out b w1 hbw s1 uw)
  have hRb : w.heap.size ≠ b := by omega
  have hb1 : b < w1.heap.size := s1.1
  clear s1 u1 uw g1 q0 q1 hR0 hb
  go_wp2_with fail
  refine p1.out.mono ?_
  rintro e w2 ⟨x1, x2, x3, x4, m1, rfl, hx1, hx2, hx3, hx4, hm1, s2, u2, g2⟩
  have hR2 := (g2.block w.heap.size zR1 (by intro h; injection h; omega)).trans hR1
  have zR2 := lt_some hR2
  have G2 := Lib.hid (below_grow G1.out G1.out.size g2 hbw)
  have hXb : w2.heap.size ≠ b := by have := s2.1; omega
  have hXR : w2.heap.size ≠ w.heap.size := by omega
  have s3 := src_alloc s2 (.cells #[.int .i64 x1, .int .i64 x2, .int .i64 x3, .int .i64 x4] 25)
  have u3 := u8_alloc u2 (.cells #[.int .i64 x1, .int .i64 x2, .int .i64 x3, .int .i64 x4] 25)
  have hX3 := heap_alloc_new w2 (.cells #[.int .i64 x1, .int .i64 x2, .int .i64 x3, .int .i64 x4] 25)
  have hR3 := (Below.heap_alloc w2 (.cells #[.int .i64 x1, .int .i64 x2, .int .i64 x3, .int .i64 x4] 25) _ zR2).trans hR2
  have G3 := Lib.hid (G2.out.alloc (by have := G2.out.size; omega) (.cells #[.int .i64 x1, .int .i64 x2, .int .i64 x3, .int .i64 x4] 25))
  have zX3 : w2.heap.size < (w2.alloc (.cells #[.int .i64 x1, .int .i64 x2, .int .i64 x3, .int .i64 x4] 25)).heap.size := by simp
  clear s2 u2 g2 p1 hR1 hR2 G1 G2
  go_wp2_with fail
  generalize w2.alloc (.cells #[.int .i64 x1, .int .i64 x2, .int .i64 x3, .int .i64 x4] 25) = w3 at hX3 hR3 s3 u3 G3 zX3 ⊢
  have cX0 := cellB hX3 0 _ rfl
  have fX0 := freeB hX3 0
  have cX1 := cellB hX3 1 _ rfl
  have fX1 := freeB hX3 1
  have cX2 := cellB hX3 2 _ rfl
  have fX2 := freeB hX3 2
  have cX3 := cellB hX3 3 _ rfl
  have fX3 := freeB hX3 3
  have cR0 := cellB hR3 0 _ rfl
  have fR0 := freeB hR3 0
  have cR1 := cellB hR3 1 _ rfl
  have fR1 := freeB hR3 1
  have cR2 := cellB hR3 2 _ rfl
  have fR2 := freeB hR3 2
  have cR3 := cellB hR3 3 _ rfl
  have fR3 := freeB hR3 3
  have hS0 : DrN b w2.heap.size w.heap.size x1 x2 x3 x4 w w3.drew := ⟨cX0, cX1, cX2, cX3, fun i hi => by
      match i, hi with
      | 0, _ => exact ⟨⟨_, cR0⟩, fR0⟩
      | 1, _ => exact ⟨⟨_, cR1⟩, fR1⟩
      | 2, _ => exact ⟨⟨_, cR2⟩, fR2⟩
      | 3, _ => exact ⟨⟨_, cR3⟩, fR3⟩, belowN G3.out 1, hXb, hRb, hXR, ⟨Nat.le_refl _, hbw⟩⟩
  have hsu : Hid (SrcAt w3.drew b v m1 ∧ U8Old w.heap.size w3.drew v Z) := Lib.hid (And.intro s3 u3)
  have cAm := Lib.hid (among_allocD [0, 30, 60, 1000, 1001, -1] (by decide) (by decide) _ 2 b w.heap.size m1 v Z w3 hbw (by omega) hZ s3 u3 rfl)
  simp only [List.map_cons, List.map_nil, List.length_cons, List.length_nil, Nat.reduceAdd] at cAm
  have hmm : m1 ≤ 50 := by omega
  clear s3 u3 hX3 hR3
  clear cX0 cX1 cX2 cX3 cR0 cR1 cR2 cR3 fX0 fX1 fX2 fX3 fR0 fR1 fR2 fR3
  refine wp_region_noPanic ?_
  refine wp_region_held_drew (S := (fun w' => DrN b w2.heap.size w.heap.size x1 x2 x3 x4 w w')) (by kernel_rfl) ?_ (fun hHeld => ?_)
  · exact hS0
  refine wpAnyH_take (i := 0) (oi := ⟨some 10, _, _, _, _, _⟩) (v := ?vvk9) rfl (by kernel_rfl) (by kernel_rfl) (by kernel_rfl) (fun _ _ _ h => h) (Or.inl ⟨by rfl, ?hyk9⟩) (by assumption) ?restk9
  case hyk9 => (intro w hSw; (try dsimp only at hSw); have q0 := hSw.c0; have q1 := hSw.c1; have q2 := hSw.c2; have q3 := hSw.c3; go_simp; try with_reducible rfl)
  try simp only [Act.put, List.setIfInBounds_toArray, List.set_cons_zero, List.set_cons_succ]
  refine wpAnyH_take (i := 1) (oi := ⟨some 11, _, _, _, _, _⟩) (v := ?vvk10) rfl (by kernel_rfl) (by kernel_rfl) (by kernel_rfl) (fun _ _ _ h => h) (Or.inl ⟨by rfl, ?hyk10⟩) (by assumption) ?restk10
  case hyk10 => (intro w hSw; (try dsimp only at hSw); go_simp; try with_reducible rfl)
  try simp only [Act.put, List.setIfInBounds_toArray, List.set_cons_zero, List.set_cons_succ]
  refine wpAnyH_ready (rs := [2]) (by kernel_rfl) (by simp) ?_
  refine AllReadyH.cons (o := ⟨some 12, _, _, _, _, _⟩) rfl (fun K hK => ?_) AllReadyH.nil
  go_simp
  try go_wp2_with fail
  refine hK.out _ _ ?_ (fun hHeld2 => ?_)
  · exact hHeld.below ((Below.refl _ _).alloc (Nat.le_refl _) _)
  clear hK K hHeld
  have hHeld := hHeld2
  clear hHeld2
  try simp only [Act.put, List.setIfInBounds_toArray, List.set_cons_zero, List.set_cons_succ]
  refine wpAnyH_ready (rs := [3]) (by kernel_rfl) (by simp) ?_
  refine AllReadyH.cons (o := ⟨some 13, _, _, _, _, _⟩) rfl (fun K hK => ?_) AllReadyH.nil
  go_simp
  skip
  (go_at_call 29; (with_reducible refine cAm.out.mono ?_); rintro e w5 ⟨d, rfl, hd0, s5, u5, g5⟩; have hH5 := hHeld.after g5; clear s5 u5 g5)
  try go_wp2_with fail
  refine hK.out _ _ ?_ (fun hHeld2 => ?_)
  · exact hH5
  clear hK K hHeld
  have hHeld := hHeld2
  clear hHeld2
  try simp only [Act.put, List.setIfInBounds_toArray, List.set_cons_zero, List.set_cons_succ]
  refine wpAnyH_ready (rs := [4]) (by kernel_rfl) (by simp) ?_
  refine AllReadyH.cons (o := ⟨none, _, _, _, _, _⟩) rfl (fun K hK => ?_) AllReadyH.nil
  have hr0 := hHeld.room 0 (by omega)
  have hr1 := hHeld.room 1 (by omega)
  have hr2 := hHeld.room 2 (by omega)
  have hr3 := hHeld.room 3 (by omega)
  obtain ⟨⟨o0, cR0⟩, fR0⟩ := hr0
  obtain ⟨⟨o1, cR1⟩, fR1⟩ := hr1
  obtain ⟨⟨o2, cR2⟩, fR2⟩ := hr2
  obtain ⟨⟨o3, cR3⟩, fR3⟩ := hr3
  go_simp
  refine hK.out _ _ ?_ (fun hHeld2 => ?_)
  · exact (((hHeld.set 0 _).set 1 _).set 2 _).set 3 _
  clear hK K hHeld
  have hHeld := hHeld2
  clear hHeld2
  try simp only [Act.put, List.setIfInBounds_toArray, List.set_cons_zero, List.set_cons_succ]
  refine wpAnyH_take (i := 5) (oi := ⟨some 3, _, _, _, _, _⟩) (v := ?vvk11) rfl (by kernel_rfl) (by kernel_rfl) (by kernel_rfl) (fun _ _ _ h => h) (Or.inl ⟨by rfl, ?hyk11⟩) (by assumption) ?restk11
  case hyk11 => (intro w hSw; (try dsimp only at hSw); go_simp; try with_reducible rfl)
  try simp only [Act.put, List.setIfInBounds_toArray, List.set_cons_zero, List.set_cons_succ]
  refine wpAnyH_done (by kernel_rfl) ?_ _
  refine NoPanic.normal ?_
  clear hS0 hsu
  have hd1 : -1 ≤ d ∧ d ≤ 1001 := by
    simp only [List.mem_cons, List.mem_nil_iff, or_false] at hd0
    omega
  go_wp2
  exact bodyPost_ret (v := .tuple #[.agg #[.int .i64 x1, .int .i64 x2, .int .i64 x3, .int .i64 x4], .int .i64 d]) (by simp [results, Tryz.results11, go_sem, cR0, cR1, cR2, cR3]) rfl ⟨x1, x2, x3, x4, d, rfl, hx1, hx2, hx3, hx4, hd1, hHeld.low⟩
end Go.Proofs.YtcdpkbcpglaiaaaGreatDoor
