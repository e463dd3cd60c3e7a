/-
  The model's drawn lists of necks, with a neck or numbers beside them.
-/
import Derived.Test.YtcdpkbcpglaiaaaDnl
import Derived.Test.YtcdpkbcpglaiaaaDrn2
namespace Go.Proofs.Ytcdpkbcpglaiaaa
open Go.ChangeShapes Go.WideShapes Go.ChangeAt Go.RowKit Go.Deep
set_option linter.unusedVariables false
set_option maxRecDepth 1000000
set_option linter.unusedSimpArgs false
set_option maxHeartbeats 3200000 in
theorem DrawHeightsAlong_any (v : Value) (Z : List Int) (w : World) (hZ : Z.length ≤ 1048576) (hu : U8Old w.heap.size w v Z) :
    Calls Try.prog 13 #[v] w fun e w' => ∃ h1 h2 d : Int, e = .returned (.tuple #[.int .i64 h1, .int .i64 h2, .int .i64 d]) ∧ (-1 ≤ h1 ∧ h1 ≤ 2001) ∧ (-1 ≤ h2 ∧ h2 ≤ 2001) ∧ (0 ≤ d ∧ d ≤ 25) ∧ Below w.heap.size w w' := by
  have q0 := from_any v Z w (u8_at hu (Nat.le_refl _) (Below.refl _ _))
  clear hu
  go_enter Try.func13, Try.ntmps13
  go_wp2_with fail
  refine q0.out.mono ?_
  rintro e w1 ⟨b, rfl, hb, s1, u1, g1⟩
  have q1 := Lib.hid (l10DrawHeight_any b w.heap.size 0 v Z w1 hb (by decide) hZ s1 u1)
  have G1 := Lib.hid g1
  clear s1 u1 g1 q0
  go_wp2_with fail
  refine q1.out.mono ?_
  rintro e w2 ⟨h1, m1, rfl, a1, b1, hm1, s2, u2, g2⟩
  have q2 := Lib.hid (l10DrawHeight_any b w.heap.size m1 v Z w2 hb (by omega) hZ s2 u2)
  have G2 := Lib.hid (below_grow G1.out G1.out.size g2 hb)
  clear s2 u2 g2 q1 G1
  go_wp2_with fail
  refine q2.out.mono ?_
  rintro e w3 ⟨h2, m2, rfl, a2, b2, hm2, s3, u3, g3⟩
  have qa := Lib.hid (fun C t => among_alloc [0, 1, 2, 5, 12, 24, 25] (by decide) (by decide) C t b w.heap.size m2 v Z w3 hb (by omega) hZ s3 u3)
  have G3 := Lib.hid (below_grow G2.out G2.out.size g3 hb)
  clear s3 u3 g3 q2 G2
  go_wp2_with fail
  refine (qa.out _ _ rfl).mono ?_
  rintro e w4 ⟨d, rfl, hd, s4, u4, g4⟩
  have hd1 : 0 ≤ d ∧ d ≤ 25 := by
    simp only [List.mem_cons, List.mem_nil_iff, or_false] at hd
    omega
  have G4 := Lib.hid (below_grow G3.out G3.out.size g4 hb)
  clear s4 u4 g4 qa G3 hd
  go_wp2
  refine bodyPost_ret (v := .tuple #[.int .i64 h1, .int .i64 h2, .int .i64 d]) (by simp [results, Try.results13, go_sem]) rfl ⟨h1, h2, d, rfl, ⟨a1, b1⟩, ⟨a2, b2⟩, hd1, G4.out⟩
set_option maxHeartbeats 3200000 in
theorem DrawSetNecks_any (v : Value) (Z : List Int) (w : World) (hZ : Z.length ≤ 1048576) (hu : U8Old w.heap.size w v Z) :
    Calls Try.prog 8 #[v] w fun e w' => ∃ (u : Value) (Y : List Nck) (h d : Int), e = .returned (.tuple #[u, .int .i64 h, .int .i64 d]) ∧ Y.length ≤ 65 ∧ (-1 ≤ h ∧ h ≤ 2001) ∧ (-1 ≤ d ∧ d ≤ 1001) ∧ OwnN w' w.heap.size u Y ∧ Below w.heap.size w w' := by
  have q0 := from_any v Z w (u8_at hu (Nat.le_refl _) (Below.refl _ _))
  clear hu
  go_enter Try.func8, Try.ntmps8
  go_wp2_with fail
  refine q0.out.mono ?_
  rintro e w1 ⟨b, rfl, hb, s1, u1, g1⟩
  have q1 := Lib.hid (l10DrawList_any b w.heap.size 0 v Z w1 hb (by decide) hZ s1 u1)
  have G1 := Lib.hid g1
  have hb1 : b < w1.heap.size := s1.1
  clear s1 u1 g1 q0
  go_wp2_with fail
  refine q1.out.mono ?_
  rintro e w2 ⟨u, Y, m1, rfl, hYl, hm1, hD⟩
  have q2 := Lib.hid (l10DrawHeight_any b w.heap.size m1 v Z w2 hb (by omega) hZ hD.src hD.u8)
  have G2 := Lib.hid (below_grow G1.out G1.out.size hD.grown hb)
  have hDH := Lib.hid hD
  clear q1 hD
  go_wp2_with fail
  refine q2.out.mono ?_
  rintro e w3 ⟨h, m2, rfl, a2, b2, hm2, s3, u3, g3⟩
  have hD3 := Lib.hid (hDH.out.after hb1 s3 u3 g3)
  have qa := Lib.hid (fun C t => among_alloc [0, 5, 20, 60, 1000, 1001, -1] (by decide) (by decide) C t b w.heap.size m2 v Z w3 hb (by omega) hZ s3 u3)
  have G3 := Lib.hid (below_grow G2.out G2.out.size g3 hb)
  clear s3 u3 g3 q2 G2 hDH
  go_wp2_with fail
  refine (qa.out _ _ rfl).mono ?_
  rintro e w4 ⟨d, rfl, hd, s4, u4, g4⟩
  have hd1 : -1 ≤ d ∧ d ≤ 1001 := by
    simp only [List.mem_cons, List.mem_nil_iff, or_false] at hd
    omega
  have O4 := Lib.hid (World.ownsRow.kept hD3.out.own g4 (Or.inr fun e => by have := World.ownsRow.own_ge hD3.out.own b e; omega))
  have hl : w.heap.size ≤ w1.heap.size := G1.out.size
  have G4 := Lib.hid (below_grow G3.out G3.out.size g4 hb)
  have hlH := Lib.hid hl
  clear s4 u4 g4 qa G3 hd hD3 hl G1
  go_wp2
  refine bodyPost_ret (v := .tuple #[u, .int .i64 h, .int .i64 d]) (by simp [results, Try.results8, go_sem]) rfl ⟨u, Y, h, d, rfl, hYl, ⟨a2, b2⟩, hd1, own_low O4.out hlH.out, G4.out⟩
set_option maxHeartbeats 3200000 in
theorem DrawNearestNeck_any (v : Value) (Z : List Int) (w : World) (hZ : Z.length ≤ 1048576) (hu : U8Old w.heap.size w v Z) :
    Calls Try.prog 5 #[v] w fun e w' => ∃ (u : Value) (Y : List Nck) (x1 x2 x3 x4 : Int), e = .returned (.tuple #[u, .agg #[.int .i64 x1, .int .i64 x2, .int .i64 x3, .int .i64 x4]]) ∧ Y.length ≤ 65 ∧ (-1 ≤ x1 ∧ x1 ≤ 20000) ∧ (-1 ≤ x2 ∧ x2 ≤ 20000) ∧ (-1 ≤ x3 ∧ x3 ≤ 20000) ∧ (-1 ≤ x4 ∧ x4 ≤ 20000) ∧ OwnN w' w.heap.size u Y ∧ Below w.heap.size w w' := by
  have ZA : Below w.heap.size w (w.alloc (.cells #[.int .i64 0, .int .i64 0, .int .i64 0, .int .i64 0] 26)) := (Below.refl _ _).alloc (Nat.le_refl _) _
  have q0 := from_any v Z (w.alloc (.cells #[.int .i64 0, .int .i64 0, .int .i64 0, .int .i64 0] 26)) (u8_at hu (by simp) ZA)
  have hR0 := heap_alloc_new w (.cells #[.int .i64 0, .int .i64 0, .int .i64 0, .int .i64 0] 26)
  have ZAH := Lib.hid ZA
  clear hu ZA
  go_enter Try.func5, Try.ntmps5
  go_wp2_with fail
  refine q0.out.mono ?_
  rintro e w1 ⟨b, rfl, hb0, s1, u1, g1⟩
  have hb : w.heap.size ≤ b := by simp at hb0; omega
  have hRb : w.heap.size ≠ b := by simp at hb0; omega
  have hR1 := (g1.block w.heap.size (by simp)).trans hR0
  have G1 := Lib.hid (below2 ZAH.out g1)
  have q1 := Lib.hid (l10DrawList_any b (w.alloc (.cells #[.int .i64 0, .int .i64 0, .int .i64 0, .int .i64 0] 26)).heap.size 0 v Z w1 hb0 (by decide) hZ s1 u1)
  have hb1 : b < w1.heap.size := s1.1
  have z1 := lt_some hR1
  clear s1 u1 g1 q0 hR0
  go_wp2_with fail
  refine q1.out.mono ?_
  rintro e w2 ⟨u, Y, m1, rfl, hYl, hm1, hD⟩
  have q2 := Lib.hid (l10Draw_any b (w.alloc (.cells #[.int .i64 0, .int .i64 0, .int .i64 0, .int .i64 0] 26)).heap.size m1 v Z w2 hb0 (by omega) hZ hD.src hD.u8)
  have G2 := Lib.hid (below_grow G1.out G1.out.size hD.grown hb)
  have hR2 := (hD.grown.block w.heap.size z1 (by intro h; injection h; omega)).trans hR1
  have z2 := lt_some hR2
  have hDH := Lib.hid hD
  clear q1 hD hR1
  go_wp2_with fail
  refine q2.out.mono ?_
  rintro e w3 ⟨x1, x2, x3, x4, m2, rfl, hx1, hx2, hx3, hx4, hm2, s3, u3, g3⟩
  have hD3 := hDH.out.after hb1 s3 u3 g3
  have hl : w.heap.size ≤ w1.heap.size := G1.out.size
  have O3 := Lib.hid hD3.own
  have hOne : u.ownBlock ≠ some w.heap.size := fun e => by have := World.ownsRow.own_ge hD3.own _ e; omega
  have G3 := Lib.hid (below_grow G2.out G2.out.size g3 hb)
  have hR3 := (g3.block w.heap.size z2 (by intro h; injection h; omega)).trans hR2
  have cR0 := cellB hR3 0 _ rfl
  have fR0 := freeB hR3 0
  have cR1 := cellB hR3 1 _ rfl
  have fR1 := freeB hR3 1
  have cR2 := cellB hR3 2 _ rfl
  have fR2 := freeB hR3 2
  have cR3 := cellB hR3 3 _ rfl
  have fR3 := freeB hR3 3
  have hlH := Lib.hid hl
  have hOH := Lib.hid hOne
  clear s3 u3 g3 q2 G2 hR2 hR3 hDH hD3 hl hOne
  go_wp2
  refine bodyPost_ret (v := .tuple #[u, .agg #[.int .i64 x1, .int .i64 x2, .int .i64 x3, .int .i64 x4]]) (by simp [results, Try.results5, go_sem, cR0, cR1, cR2, cR3]) rfl ⟨u, Y, x1, x2, x3, x4, rfl, hYl, hx1, hx2, hx3, hx4, own_low (ownsRow_setCell_other (ownsRow_setCell_other (ownsRow_setCell_other (ownsRow_setCell_other O3.out hOH.out _) hOH.out _) hOH.out _) hOH.out _) hlH.out, (((G3.out.setCell (Nat.le_refl _) _).setCell (Nat.le_refl _) _).setCell (Nat.le_refl _) _).setCell (Nat.le_refl _) _⟩
end Go.Proofs.Ytcdpkbcpglaiaaa
