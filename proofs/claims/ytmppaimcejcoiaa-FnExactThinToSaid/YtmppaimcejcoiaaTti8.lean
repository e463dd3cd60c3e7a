/-
  ThinTo of the program.
-/
import Derived.Test.YtmppaimcejcoiaaTto8
namespace Go.Proofs.Ytmppaimcejcoiaa
open Go.ChangeShapes Go.WideShapes Go.ChangeAt Go.RowKit Go.Deep
set_option linter.unusedVariables false
set_option linter.unusedSimpArgs false
set_option maxRecDepth 1000000
theorem four_boxP (w : World) (cs : Array Value) (T : TypeId) (cs2 : Array Value) (T2 : TypeId) (cs3 : Array Value) (T3 : TypeId) (cs4 : Array Value) (T4 : TypeId) :
    (∀ i v, cs[i]? = some v → ((((w.alloc (.cells cs T)).alloc (.cells cs2 T2)).alloc (.cells cs3 T3)).alloc (.cells cs4 T4)).cell? ⟨w.heap.size, i, none⟩ = some v) ∧ (∀ i v, cs2[i]? = some v → ((((w.alloc (.cells cs T)).alloc (.cells cs2 T2)).alloc (.cells cs3 T3)).alloc (.cells cs4 T4)).cell? ⟨w.heap.size + 1, i, none⟩ = some v) ∧ (∀ i v, cs3[i]? = some v → ((((w.alloc (.cells cs T)).alloc (.cells cs2 T2)).alloc (.cells cs3 T3)).alloc (.cells cs4 T4)).cell? ⟨w.heap.size + 2, i, none⟩ = some v) ∧ (∀ i v, cs4[i]? = some v → ((((w.alloc (.cells cs T)).alloc (.cells cs2 T2)).alloc (.cells cs3 T3)).alloc (.cells cs4 T4)).cell? ⟨w.heap.size + 3, i, none⟩ = some v) ∧ Below w.heap.size w ((((w.alloc (.cells cs T)).alloc (.cells cs2 T2)).alloc (.cells cs3 T3)).alloc (.cells cs4 T4)) ∧ w.heap.size + 3 < ((((w.alloc (.cells cs T)).alloc (.cells cs2 T2)).alloc (.cells cs3 T3)).alloc (.cells cs4 T4)).heap.size := by
  obtain ⟨a1, a2, a3⟩ := one_boxP w cs T
  have s1 : (w.alloc (.cells cs T)).heap.size = w.heap.size + 1 := by simp
  generalize w.alloc (.cells cs T) = A at a1 a2 a3 s1 ⊢
  obtain ⟨b1, b2, b3⟩ := one_boxP A cs2 T2
  have s2 : (A.alloc (.cells cs2 T2)).heap.size = A.heap.size + 1 := by simp
  generalize A.alloc (.cells cs2 T2) = B at b1 b2 b3 s2 ⊢
  obtain ⟨c1, c2, c3⟩ := one_boxP B cs3 T3
  have s3 : (B.alloc (.cells cs3 T3)).heap.size = B.heap.size + 1 := by simp
  generalize B.alloc (.cells cs3 T3) = C at c1 c2 c3 s3 ⊢
  obtain ⟨d1, d2, d3⟩ := one_boxP C cs4 T4
  have s4 : (C.alloc (.cells cs4 T4)).heap.size = C.heap.size + 1 := by simp
  generalize C.alloc (.cells cs4 T4) = D at d1 d2 d3 s4 ⊢
  rw [s1] at b1
  rw [s2, s1] at c1
  rw [s3, s2, s1] at d1
  have BD : Below B.heap.size B D := c2.trans (d2.mono (by omega))
  have AD : Below A.heap.size A D := b2.trans (BD.mono (by omega))
  exact ⟨fun i v h => (AD.cell (p := ⟨w.heap.size, i, none⟩) (by show w.heap.size < _; omega)).trans (a1 i v h), fun i v h => (BD.cell (p := ⟨w.heap.size + 1, i, none⟩) (by show w.heap.size + 1 < _; omega)).trans (b1 i v h), fun i v h => (d2.cell (p := ⟨w.heap.size + 2, i, none⟩) (by show w.heap.size + 2 < _; omega)).trans (c1 i v h), d1, a2.trans (AD.mono (by omega)), by omega⟩
set_option maxHeartbeats 6400000 in
theorem implThinTo_any (v : Value) (G : List (List Int)) (c d m l : Int) (w : World) (hn : G.length + totL G ≤ 1048576) (hv : GridAt w v G) : Calls Try.prog 10 #[v, .int .i64 c, .int .i64 d, .int .i64 m, .int .i64 l] w fun e w' => e = .returned (.tuple #[.int .i64 (toV G c d m l), .int .i64 (toC G c d m l)]) ∧ Below w.heap.size w w' := by
  have cC := Lib.hid (fun W (hb : Below w.heap.size w W) => codeOfPlate_any v G (toB c d m l) W hn (hv.below hb))
  have cW := Lib.hid (fun W => isWood_any c d W)
  have cI := Lib.hid (fun W => within64_any m 0 1000000000 W)
  have cK := Lib.hid (fun W => isPlateThick_any l W)
  have hV0 : toV G c d m l = if okP G && toB c d m l then (if toN G c d m l = 201 then 0 else (toN G c d m l : Int)) else 0 := rfl
  have hC0 : toC G c d m l = if okP G = true then (if toB c d m l = true then (if toN G c d m l = 201 then 3 else 0) else 2) else 1 := rfl
  have hS0 : toB c d m l = (woodB c d && (inB m 0 1000000000 && inB l 1 200)) := rfl
  obtain ⟨q, hq⟩ : ∃ q, q = toB c d m l := ⟨_, rfl⟩
  rw [← hq] at cC hV0 hC0 hS0
  clear hq
  cases hwd : woodB c d <;> rw [hwd] at cW hS0
  · have hq : q = false := hS0
    subst hq
    clear hS0 hwd
    cases hok : okP G
    · have hV : Hid (toV G c d m l = 0) := Lib.hid (by rw [hV0, hok]; rfl)
      have hC : Hid (toC G c d m l = 1) := Lib.hid (by rw [hC0, hok]; rfl)
      rw [hok] at cC
      obtain ⟨a, cap, rfl, _⟩ := hv
      clear hV0 hC0 hok
      rw [show cod8 false false = 1 from rfl] at cC
      go_enter Try.func10, Try.ntmps10
      go_wp2_with fail
      obtain ⟨q1, q2, q3, q4, hB0, hsz⟩ := four_boxP w #[.slice a G.length cap] 22 #[.int .i64 m] 2 #[.int .i64 l] 2 #[.int .i64 c, .int .i64 d] 45
      generalize ((((w.alloc (.cells #[.slice a G.length cap] 22)).alloc (.cells #[.int .i64 m] 2)).alloc (.cells #[.int .i64 l] 2)).alloc (.cells #[.int .i64 c, .int .i64 d] 45)) = W0 at q1 q2 q3 q4 hB0 hsz ⊢
      have cg := q1 0 _ rfl
      have cm := q2 0 _ rfl
      have cl := q3 0 _ rfl
      have c0 := q4 0 _ rfl
      have c1 := q4 1 _ rfl
      clear q1 q2 q3 q4
      refine (cW.out _).mono ?_
      rintro e w1 ⟨rfl, b1⟩
      have B1 := below2 hB0 b1
      replace cg := (b1.cell (p := ⟨w.heap.size, 0, none⟩) (by show w.heap.size < _; omega)).trans cg
      replace cm := (b1.cell (p := ⟨w.heap.size + 1, 0, none⟩) (by show w.heap.size + 1 < _; omega)).trans cm
      replace cl := (b1.cell (p := ⟨w.heap.size + 2, 0, none⟩) (by show w.heap.size + 2 < _; omega)).trans cl
      replace c0 := (b1.cell (p := ⟨w.heap.size + 3, 0, none⟩) hsz).trans c0
      replace c1 := (b1.cell (p := ⟨w.heap.size + 3, 1, none⟩) hsz).trans c1
      have cC1 := Lib.hid (cC.out w1 B1)
      clear b1
      go_wp2_with (first | (go_at_call 29; refine (cI.out _).mono ?_; rintro e w' ⟨rfl, rfl⟩) | (go_at_call 30; refine (cK.out _).mono ?_; rintro e w' ⟨rfl, rfl⟩))
      refine cC1.out.mono ?_
      rintro e w2 ⟨rfl, hd2⟩
      replace cg := (hd2.cell _).trans cg
      replace cm := (hd2.cell _).trans cm
      replace cl := (hd2.cell _).trans cl
      replace c0 := (hd2.cell _).trans c0
      replace c1 := (hd2.cell _).trans c1
      have B2 := below2 B1 hd2.below
      clear hd2 B1 hB0
      go_wp2
      go_ret2
      exact ⟨ret_int2 hV.out.symm hC.out.symm, B2⟩
    · have hV : Hid (toV G c d m l = 0) := Lib.hid (by rw [hV0, hok]; rfl)
      have hC : Hid (toC G c d m l = 2) := Lib.hid (by rw [hC0, hok]; rfl)
      rw [hok] at cC
      obtain ⟨a, cap, rfl, _⟩ := hv
      clear hV0 hC0 hok
      rw [show cod8 true false = 2 from rfl] at cC
      go_enter Try.func10, Try.ntmps10
      go_wp2_with fail
      obtain ⟨q1, q2, q3, q4, hB0, hsz⟩ := four_boxP w #[.slice a G.length cap] 22 #[.int .i64 m] 2 #[.int .i64 l] 2 #[.int .i64 c, .int .i64 d] 45
      generalize ((((w.alloc (.cells #[.slice a G.length cap] 22)).alloc (.cells #[.int .i64 m] 2)).alloc (.cells #[.int .i64 l] 2)).alloc (.cells #[.int .i64 c, .int .i64 d] 45)) = W0 at q1 q2 q3 q4 hB0 hsz ⊢
      have cg := q1 0 _ rfl
      have cm := q2 0 _ rfl
      have cl := q3 0 _ rfl
      have c0 := q4 0 _ rfl
      have c1 := q4 1 _ rfl
      clear q1 q2 q3 q4
      refine (cW.out _).mono ?_
      rintro e w1 ⟨rfl, b1⟩
      have B1 := below2 hB0 b1
      replace cg := (b1.cell (p := ⟨w.heap.size, 0, none⟩) (by show w.heap.size < _; omega)).trans cg
      replace cm := (b1.cell (p := ⟨w.heap.size + 1, 0, none⟩) (by show w.heap.size + 1 < _; omega)).trans cm
      replace cl := (b1.cell (p := ⟨w.heap.size + 2, 0, none⟩) (by show w.heap.size + 2 < _; omega)).trans cl
      replace c0 := (b1.cell (p := ⟨w.heap.size + 3, 0, none⟩) hsz).trans c0
      replace c1 := (b1.cell (p := ⟨w.heap.size + 3, 1, none⟩) hsz).trans c1
      have cC1 := Lib.hid (cC.out w1 B1)
      clear b1
      go_wp2_with (first | (go_at_call 29; refine (cI.out _).mono ?_; rintro e w' ⟨rfl, rfl⟩) | (go_at_call 30; refine (cK.out _).mono ?_; rintro e w' ⟨rfl, rfl⟩))
      refine cC1.out.mono ?_
      rintro e w2 ⟨rfl, hd2⟩
      replace cg := (hd2.cell _).trans cg
      replace cm := (hd2.cell _).trans cm
      replace cl := (hd2.cell _).trans cl
      replace c0 := (hd2.cell _).trans c0
      replace c1 := (hd2.cell _).trans c1
      have B2 := below2 B1 hd2.below
      clear hd2 B1 hB0
      go_wp2
      go_ret2
      exact ⟨ret_int2 hV.out.symm hC.out.symm, B2⟩
  cases hin : inB m 0 1000000000 <;> rw [hin] at cI hS0
  · have hq : q = false := hS0
    subst hq
    clear hS0 hwd hin
    cases hok : okP G
    · have hV : Hid (toV G c d m l = 0) := Lib.hid (by rw [hV0, hok]; rfl)
      have hC : Hid (toC G c d m l = 1) := Lib.hid (by rw [hC0, hok]; rfl)
      rw [hok] at cC
      obtain ⟨a, cap, rfl, _⟩ := hv
      clear hV0 hC0 hok
      rw [show cod8 false false = 1 from rfl] at cC
      go_enter Try.func10, Try.ntmps10
      go_wp2_with fail
      obtain ⟨q1, q2, q3, q4, hB0, hsz⟩ := four_boxP w #[.slice a G.length cap] 22 #[.int .i64 m] 2 #[.int .i64 l] 2 #[.int .i64 c, .int .i64 d] 45
      generalize ((((w.alloc (.cells #[.slice a G.length cap] 22)).alloc (.cells #[.int .i64 m] 2)).alloc (.cells #[.int .i64 l] 2)).alloc (.cells #[.int .i64 c, .int .i64 d] 45)) = W0 at q1 q2 q3 q4 hB0 hsz ⊢
      have cg := q1 0 _ rfl
      have cm := q2 0 _ rfl
      have cl := q3 0 _ rfl
      have c0 := q4 0 _ rfl
      have c1 := q4 1 _ rfl
      clear q1 q2 q3 q4
      refine (cW.out _).mono ?_
      rintro e w1 ⟨rfl, b1⟩
      have B1 := below2 hB0 b1
      replace cg := (b1.cell (p := ⟨w.heap.size, 0, none⟩) (by show w.heap.size < _; omega)).trans cg
      replace cm := (b1.cell (p := ⟨w.heap.size + 1, 0, none⟩) (by show w.heap.size + 1 < _; omega)).trans cm
      replace cl := (b1.cell (p := ⟨w.heap.size + 2, 0, none⟩) (by show w.heap.size + 2 < _; omega)).trans cl
      replace c0 := (b1.cell (p := ⟨w.heap.size + 3, 0, none⟩) hsz).trans c0
      replace c1 := (b1.cell (p := ⟨w.heap.size + 3, 1, none⟩) hsz).trans c1
      have cC1 := Lib.hid (cC.out w1 B1)
      clear b1
      go_wp2_with (first | (go_at_call 29; refine (cI.out _).mono ?_; rintro e w' ⟨rfl, rfl⟩) | (go_at_call 30; refine (cK.out _).mono ?_; rintro e w' ⟨rfl, rfl⟩))
      refine cC1.out.mono ?_
      rintro e w2 ⟨rfl, hd2⟩
      replace cg := (hd2.cell _).trans cg
      replace cm := (hd2.cell _).trans cm
      replace cl := (hd2.cell _).trans cl
      replace c0 := (hd2.cell _).trans c0
      replace c1 := (hd2.cell _).trans c1
      have B2 := below2 B1 hd2.below
      clear hd2 B1 hB0
      go_wp2
      go_ret2
      exact ⟨ret_int2 hV.out.symm hC.out.symm, B2⟩
    · have hV : Hid (toV G c d m l = 0) := Lib.hid (by rw [hV0, hok]; rfl)
      have hC : Hid (toC G c d m l = 2) := Lib.hid (by rw [hC0, hok]; rfl)
      rw [hok] at cC
      obtain ⟨a, cap, rfl, _⟩ := hv
      clear hV0 hC0 hok
      rw [show cod8 true false = 2 from rfl] at cC
      go_enter Try.func10, Try.ntmps10
      go_wp2_with fail
      obtain ⟨q1, q2, q3, q4, hB0, hsz⟩ := four_boxP w #[.slice a G.length cap] 22 #[.int .i64 m] 2 #[.int .i64 l] 2 #[.int .i64 c, .int .i64 d] 45
      generalize ((((w.alloc (.cells #[.slice a G.length cap] 22)).alloc (.cells #[.int .i64 m] 2)).alloc (.cells #[.int .i64 l] 2)).alloc (.cells #[.int .i64 c, .int .i64 d] 45)) = W0 at q1 q2 q3 q4 hB0 hsz ⊢
      have cg := q1 0 _ rfl
      have cm := q2 0 _ rfl
      have cl := q3 0 _ rfl
      have c0 := q4 0 _ rfl
      have c1 := q4 1 _ rfl
      clear q1 q2 q3 q4
      refine (cW.out _).mono ?_
      rintro e w1 ⟨rfl, b1⟩
      have B1 := below2 hB0 b1
      replace cg := (b1.cell (p := ⟨w.heap.size, 0, none⟩) (by show w.heap.size < _; omega)).trans cg
      replace cm := (b1.cell (p := ⟨w.heap.size + 1, 0, none⟩) (by show w.heap.size + 1 < _; omega)).trans cm
      replace cl := (b1.cell (p := ⟨w.heap.size + 2, 0, none⟩) (by show w.heap.size + 2 < _; omega)).trans cl
      replace c0 := (b1.cell (p := ⟨w.heap.size + 3, 0, none⟩) hsz).trans c0
      replace c1 := (b1.cell (p := ⟨w.heap.size + 3, 1, none⟩) hsz).trans c1
      have cC1 := Lib.hid (cC.out w1 B1)
      clear b1
      go_wp2_with (first | (go_at_call 29; refine (cI.out _).mono ?_; rintro e w' ⟨rfl, rfl⟩) | (go_at_call 30; refine (cK.out _).mono ?_; rintro e w' ⟨rfl, rfl⟩))
      refine cC1.out.mono ?_
      rintro e w2 ⟨rfl, hd2⟩
      replace cg := (hd2.cell _).trans cg
      replace cm := (hd2.cell _).trans cm
      replace cl := (hd2.cell _).trans cl
      replace c0 := (hd2.cell _).trans c0
      replace c1 := (hd2.cell _).trans c1
      have B2 := below2 B1 hd2.below
      clear hd2 B1 hB0
      go_wp2
      go_ret2
      exact ⟨ret_int2 hV.out.symm hC.out.symm, B2⟩
  cases hth : inB l 1 200 <;> rw [hth] at cK hS0
  · have hq : q = false := hS0
    subst hq
    clear hS0 hwd hin hth
    cases hok : okP G
    · have hV : Hid (toV G c d m l = 0) := Lib.hid (by rw [hV0, hok]; rfl)
      have hC : Hid (toC G c d m l = 1) := Lib.hid (by rw [hC0, hok]; rfl)
      rw [hok] at cC
      obtain ⟨a, cap, rfl, _⟩ := hv
      clear hV0 hC0 hok
      rw [show cod8 false false = 1 from rfl] at cC
      go_enter Try.func10, Try.ntmps10
      go_wp2_with fail
      obtain ⟨q1, q2, q3, q4, hB0, hsz⟩ := four_boxP w #[.slice a G.length cap] 22 #[.int .i64 m] 2 #[.int .i64 l] 2 #[.int .i64 c, .int .i64 d] 45
      generalize ((((w.alloc (.cells #[.slice a G.length cap] 22)).alloc (.cells #[.int .i64 m] 2)).alloc (.cells #[.int .i64 l] 2)).alloc (.cells #[.int .i64 c, .int .i64 d] 45)) = W0 at q1 q2 q3 q4 hB0 hsz ⊢
      have cg := q1 0 _ rfl
      have cm := q2 0 _ rfl
      have cl := q3 0 _ rfl
      have c0 := q4 0 _ rfl
      have c1 := q4 1 _ rfl
      clear q1 q2 q3 q4
      refine (cW.out _).mono ?_
      rintro e w1 ⟨rfl, b1⟩
      have B1 := below2 hB0 b1
      replace cg := (b1.cell (p := ⟨w.heap.size, 0, none⟩) (by show w.heap.size < _; omega)).trans cg
      replace cm := (b1.cell (p := ⟨w.heap.size + 1, 0, none⟩) (by show w.heap.size + 1 < _; omega)).trans cm
      replace cl := (b1.cell (p := ⟨w.heap.size + 2, 0, none⟩) (by show w.heap.size + 2 < _; omega)).trans cl
      replace c0 := (b1.cell (p := ⟨w.heap.size + 3, 0, none⟩) hsz).trans c0
      replace c1 := (b1.cell (p := ⟨w.heap.size + 3, 1, none⟩) hsz).trans c1
      have cC1 := Lib.hid (cC.out w1 B1)
      clear b1
      go_wp2_with (first | (go_at_call 29; refine (cI.out _).mono ?_; rintro e w' ⟨rfl, rfl⟩) | (go_at_call 30; refine (cK.out _).mono ?_; rintro e w' ⟨rfl, rfl⟩))
      refine cC1.out.mono ?_
      rintro e w2 ⟨rfl, hd2⟩
      replace cg := (hd2.cell _).trans cg
      replace cm := (hd2.cell _).trans cm
      replace cl := (hd2.cell _).trans cl
      replace c0 := (hd2.cell _).trans c0
      replace c1 := (hd2.cell _).trans c1
      have B2 := below2 B1 hd2.below
      clear hd2 B1 hB0
      go_wp2
      go_ret2
      exact ⟨ret_int2 hV.out.symm hC.out.symm, B2⟩
    · have hV : Hid (toV G c d m l = 0) := Lib.hid (by rw [hV0, hok]; rfl)
      have hC : Hid (toC G c d m l = 2) := Lib.hid (by rw [hC0, hok]; rfl)
      rw [hok] at cC
      obtain ⟨a, cap, rfl, _⟩ := hv
      clear hV0 hC0 hok
      rw [show cod8 true false = 2 from rfl] at cC
      go_enter Try.func10, Try.ntmps10
      go_wp2_with fail
      obtain ⟨q1, q2, q3, q4, hB0, hsz⟩ := four_boxP w #[.slice a G.length cap] 22 #[.int .i64 m] 2 #[.int .i64 l] 2 #[.int .i64 c, .int .i64 d] 45
      generalize ((((w.alloc (.cells #[.slice a G.length cap] 22)).alloc (.cells #[.int .i64 m] 2)).alloc (.cells #[.int .i64 l] 2)).alloc (.cells #[.int .i64 c, .int .i64 d] 45)) = W0 at q1 q2 q3 q4 hB0 hsz ⊢
      have cg := q1 0 _ rfl
      have cm := q2 0 _ rfl
      have cl := q3 0 _ rfl
      have c0 := q4 0 _ rfl
      have c1 := q4 1 _ rfl
      clear q1 q2 q3 q4
      refine (cW.out _).mono ?_
      rintro e w1 ⟨rfl, b1⟩
      have B1 := below2 hB0 b1
      replace cg := (b1.cell (p := ⟨w.heap.size, 0, none⟩) (by show w.heap.size < _; omega)).trans cg
      replace cm := (b1.cell (p := ⟨w.heap.size + 1, 0, none⟩) (by show w.heap.size + 1 < _; omega)).trans cm
      replace cl := (b1.cell (p := ⟨w.heap.size + 2, 0, none⟩) (by show w.heap.size + 2 < _; omega)).trans cl
      replace c0 := (b1.cell (p := ⟨w.heap.size + 3, 0, none⟩) hsz).trans c0
      replace c1 := (b1.cell (p := ⟨w.heap.size + 3, 1, none⟩) hsz).trans c1
      have cC1 := Lib.hid (cC.out w1 B1)
      clear b1
      go_wp2_with (first | (go_at_call 29; refine (cI.out _).mono ?_; rintro e w' ⟨rfl, rfl⟩) | (go_at_call 30; refine (cK.out _).mono ?_; rintro e w' ⟨rfl, rfl⟩))
      refine cC1.out.mono ?_
      rintro e w2 ⟨rfl, hd2⟩
      replace cg := (hd2.cell _).trans cg
      replace cm := (hd2.cell _).trans cm
      replace cl := (hd2.cell _).trans cl
      replace c0 := (hd2.cell _).trans c0
      replace c1 := (hd2.cell _).trans c1
      have B2 := below2 B1 hd2.below
      clear hd2 B1 hB0
      go_wp2
      go_ret2
      exact ⟨ret_int2 hV.out.symm hC.out.symm, B2⟩
  have hq : q = true := hS0
  subst hq
  cases hok : okP G
  · have hV : Hid (toV G c d m l = 0) := Lib.hid (by rw [hV0, hok]; rfl)
    have hC : Hid (toC G c d m l = 1) := Lib.hid (by rw [hC0, hok]; rfl)
    rw [hok] at cC
    obtain ⟨a, cap, rfl, _⟩ := hv
    clear hV0 hC0 hok hS0 hwd hin hth
    rw [show cod8 false true = 1 from rfl] at cC
    go_enter Try.func10, Try.ntmps10
    go_wp2_with fail
    obtain ⟨q1, q2, q3, q4, hB0, hsz⟩ := four_boxP w #[.slice a G.length cap] 22 #[.int .i64 m] 2 #[.int .i64 l] 2 #[.int .i64 c, .int .i64 d] 45
    generalize ((((w.alloc (.cells #[.slice a G.length cap] 22)).alloc (.cells #[.int .i64 m] 2)).alloc (.cells #[.int .i64 l] 2)).alloc (.cells #[.int .i64 c, .int .i64 d] 45)) = W0 at q1 q2 q3 q4 hB0 hsz ⊢
    have cg := q1 0 _ rfl
    have cm := q2 0 _ rfl
    have cl := q3 0 _ rfl
    have c0 := q4 0 _ rfl
    have c1 := q4 1 _ rfl
    clear q1 q2 q3 q4
    refine (cW.out _).mono ?_
    rintro e w1 ⟨rfl, b1⟩
    have B1 := below2 hB0 b1
    replace cg := (b1.cell (p := ⟨w.heap.size, 0, none⟩) (by show w.heap.size < _; omega)).trans cg
    replace cm := (b1.cell (p := ⟨w.heap.size + 1, 0, none⟩) (by show w.heap.size + 1 < _; omega)).trans cm
    replace cl := (b1.cell (p := ⟨w.heap.size + 2, 0, none⟩) (by show w.heap.size + 2 < _; omega)).trans cl
    replace c0 := (b1.cell (p := ⟨w.heap.size + 3, 0, none⟩) hsz).trans c0
    replace c1 := (b1.cell (p := ⟨w.heap.size + 3, 1, none⟩) hsz).trans c1
    have cC1 := Lib.hid (cC.out w1 B1)
    clear b1
    go_wp2_with (first | (go_at_call 29; refine (cI.out _).mono ?_; rintro e w' ⟨rfl, rfl⟩) | (go_at_call 30; refine (cK.out _).mono ?_; rintro e w' ⟨rfl, rfl⟩))
    refine cC1.out.mono ?_
    rintro e w2 ⟨rfl, hd2⟩
    replace cg := (hd2.cell _).trans cg
    replace cm := (hd2.cell _).trans cm
    replace cl := (hd2.cell _).trans cl
    replace c0 := (hd2.cell _).trans c0
    replace c1 := (hd2.cell _).trans c1
    have B2 := below2 B1 hd2.below
    clear hd2 B1 hB0
    go_wp2
    go_ret2
    exact ⟨ret_int2 hV.out.symm hC.out.symm, B2⟩
  have hVN : Hid (toV G c d m l = if toN G c d m l = 201 then 0 else (toN G c d m l : Int)) := Lib.hid (by rw [hV0, hok]; rfl)
  have hCN : Hid (toC G c d m l = if toN G c d m l = 201 then 3 else 0) := Lib.hid (by rw [hC0, hok]; rfl)
  obtain ⟨g, o, cap, rg, ro, rc, rfl, hGR⟩ := grid_GR hv (okP_okG hok)
  obtain ⟨hc, hd⟩ := wood_bd hwd
  have hl := inB_iff.1 hth
  have hm := inB_iff.1 hin
  rw [hok] at cC
  have cM0 := fun W (hb : Below w.heap.size w W) (i : Nat) (hi : i < 201) bw bl bg bm hcl => thto1_any c d (i : Int) l m hc hd ⟨by omega, by omega⟩ hl g o cap G.length (colsG G) rg ro rc (hG G) W (hGR.below hb) bw bl bg bm hcl
  obtain ⟨PP, hPP⟩ : ∃ PP, PP = toP c d l m G.length (colsG G) (hG G) := ⟨_, rfl⟩
  have hPi : ∀ i : Nat, decide (thM c d (i : Int) l G.length (colsG G) (hG G) ≤ m) = PP i := fun i => by rw [hPP]; rfl
  simp only [hPi] at cM0
  have cM := Lib.hid cM0
  have hmo : Hid (∀ i j : Nat, i ≤ j → PP i = true → PP j = true) := Lib.hid (fun i j hij hp => by rw [hPP] at hp ⊢; exact toP_mono (by omega) (by omega) i j hij hp)
  have hN : Hid (toN G c d m l = lstN PP 201) := Lib.hid (by rw [hPP]; rfl)
  clear hV0 hC0 hok hwd hin hth hS0 hGR hv hPP hPi cM0
  rw [show cod8 true true = 0 from rfl] at cC
  go_enter Try.func10, Try.ntmps10
  go_wp2_with fail
  obtain ⟨q1, q2, q3, q4, hB0, hsz⟩ := four_boxP w #[.slice (some ⟨g, o, none⟩) G.length cap] 22 #[.int .i64 m] 2 #[.int .i64 l] 2 #[.int .i64 c, .int .i64 d] 45
  generalize ((((w.alloc (.cells #[.slice (some ⟨g, o, none⟩) G.length cap] 22)).alloc (.cells #[.int .i64 m] 2)).alloc (.cells #[.int .i64 l] 2)).alloc (.cells #[.int .i64 c, .int .i64 d] 45)) = W0 at q1 q2 q3 q4 hB0 hsz ⊢
  have cg := q1 0 _ rfl
  have cm := q2 0 _ rfl
  have cl := q3 0 _ rfl
  have c0 := q4 0 _ rfl
  have c1 := q4 1 _ rfl
  clear q1 q2 q3 q4
  refine (cW.out _).mono ?_
  rintro e w1 ⟨rfl, b1⟩
  have B1 := below2 hB0 b1
  replace cg := (b1.cell (p := ⟨w.heap.size, 0, none⟩) (by show w.heap.size < _; omega)).trans cg
  replace cm := (b1.cell (p := ⟨w.heap.size + 1, 0, none⟩) (by show w.heap.size + 1 < _; omega)).trans cm
  replace cl := (b1.cell (p := ⟨w.heap.size + 2, 0, none⟩) (by show w.heap.size + 2 < _; omega)).trans cl
  replace c0 := (b1.cell (p := ⟨w.heap.size + 3, 0, none⟩) hsz).trans c0
  replace c1 := (b1.cell (p := ⟨w.heap.size + 3, 1, none⟩) hsz).trans c1
  have cC1 := Lib.hid (cC.out w1 B1)
  clear b1
  go_wp2_with (first | (go_at_call 29; refine (cI.out _).mono ?_; rintro e w' ⟨rfl, rfl⟩) | (go_at_call 30; refine (cK.out _).mono ?_; rintro e w' ⟨rfl, rfl⟩))
  refine cC1.out.mono ?_
  rintro e w2 ⟨rfl, hd2⟩
  replace cg := (hd2.cell _).trans cg
  replace cm := (hd2.cell _).trans cm
  replace cl := (hd2.cell _).trans cl
  replace c0 := (hd2.cell _).trans c0
  replace c1 := (hd2.cell _).trans c1
  have B2 := below2 B1 hd2.below
  clear hd2 B1 hB0
  have hsr := Lib.hid (leastFrom_any 33 #[.pointer (some ⟨w.heap.size + 3, 0, none⟩), .pointer (some ⟨w.heap.size + 2, 0, none⟩), .pointer (some ⟨w.heap.size, 0, none⟩), .pointer (some ⟨w.heap.size + 1, 0, none⟩)] 0 200 201 PP w2 (enters_of Try.func33 (by kernel_rfl) rfl) (by omega) (by omega) (by omega) (by omega) (fun W i hW hi => by
    rw [Int.zero_add]
    have k1 := World.block_lt_of_cell? w2 _ c0
    have k2 := World.block_lt_of_cell? w2 _ cl
    have k3 := World.block_lt_of_cell? w2 _ cg
    have k4 := World.block_lt_of_cell? w2 _ cm
    exact cM.out W (below2 B2 hW) i hi (w.heap.size + 3) (w.heap.size + 2) w.heap.size (w.heap.size + 1) ⟨(hW.cell (p := ⟨w.heap.size + 3, 0, none⟩) k1).trans c0, (hW.cell (p := ⟨w.heap.size + 3, 1, none⟩) k1).trans c1, (hW.cell (p := ⟨w.heap.size + 2, 0, none⟩) k2).trans cl, (hW.cell (p := ⟨w.heap.size, 0, none⟩) k3).trans cg, (hW.cell (p := ⟨w.heap.size + 1, 0, none⟩) k4).trans cm⟩) (fun i j hij hj hp => hmo.out i j hij hp))
  have hVr : Hid (toV G c d m l = lfV 0 (lstN PP 201) 201) := Lib.hid (by rw [hVN.out, hN.out]; unfold lfV; rw [Int.zero_add])
  have hCr : Hid (toC G c d m l = lfC (lstN PP 201) 201) := Lib.hid (by rw [hCN.out, hN.out]; rfl)
  go_wp2_with (go_at_call 32; (with_reducible refine hsr.out.mono ?_); rintro e w3 ⟨rfl, b3⟩)
  go_ret2
  exact ⟨ret_int2 hVr.out.symm hCr.out.symm, below2 B2 b3⟩
end Go.Proofs.Ytmppaimcejcoiaa
