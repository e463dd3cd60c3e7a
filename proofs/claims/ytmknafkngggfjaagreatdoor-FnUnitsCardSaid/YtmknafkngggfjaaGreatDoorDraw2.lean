/-
  The model's draws for the law of units: what is known of each draw is its bounds.
-/
import Derived.Test.YtmknafkngggfjaaGreatDoorDraw
namespace Go.Proofs.YtmknafkngggfjaaGreatDoor
open Go.ChangeShapes Go.WideShapes Go.ChangeAt Go.RowKit
set_option linter.unusedVariables false
set_option linter.unusedSimpArgs false
set_option maxHeartbeats 1600000 in
set_option maxRecDepth 1000000 in
theorem l02DrawMass_any (b B n : Nat) (v : Value) (Z : List Int) (w : World) (hB : B ≤ b) (hn : n ≤ 50) (hZ : Z.length ≤ 1048576) (hs : SrcAt w b v n) (hu : U8Old B w v Z) :
    Calls Tryz.prog 40 #[.pointer (some ⟨b, 0, none⟩)] w (NumRet (-1) 1000000001 b B v Z (n + 3) w) := by
  have q1 := Lib.hid (one_any 9 (by decide) (by decide) b B n v Z w hB (by omega) hZ hs hu)
  have qa := Lib.hid (fun C t n W (hn : n ≤ 90) hs hu => among_alloc [-1, 0, 1, 1000000000, 1000000001] (by decide) (by decide) C t b B n v Z W hB hn hZ hs hu)
  have qp := Lib.hid (fun n W (hn : n ≤ 90) => pick_any 9000 (by decide) (by decide) b B n v Z W hB hn hZ)
  clear hs hu
  go_enter Tryz.func40, Tryz.ntmps40
  go_wp2_with fail
  refine q1.out.mono ?_
  rintro e w1 ⟨t, rfl, s1, u1, g1⟩
  cases t
  · have p1 := Lib.hid (qp.out (n + 1) w1 (by omega) s1 u1)
    have G1 := Lib.hid g1
    clear s1 u1 g1 qp qa q1
    go_wp2_with fail
    refine p1.out.mono ?_
    rintro e w2 ⟨r, rfl, a2, b2, s2, u2, g2⟩
    have q4 := Lib.hid (And.intro s2 (And.intro u2 (gtrans G1.out g2)))
    clear s2 u2 g2 p1 G1
    go_wp2
    go_ret
    exact ⟨_, _, rfl, by omega, by omega, by omega, q4.out.1, q4.out.2.1, q4.out.2.2⟩
  · have p1 := Lib.hid (fun C t => qa.out C t (n + 1) w1 (by omega) s1 u1)
    have G1 := Lib.hid g1
    clear s1 u1 g1 qp qa q1
    go_wp2_with fail
    refine (p1.out _ _ rfl).mono ?_
    rintro e w2 ⟨r, rfl, hr, s2, u2, g2⟩
    have hb : -1 ≤ r ∧ r ≤ 1000000001 := by
      simp only [List.mem_cons, List.mem_nil_iff, or_false] at hr
      omega
    have q4 := Lib.hid (And.intro s2 (And.intro u2 (gtrans G1.out g2)))
    clear s2 u2 g2 G1 p1 hr
    go_wp2
    go_ret
    exact ⟨_, _, rfl, hb.1, hb.2, by omega, q4.out.1, q4.out.2.1, q4.out.2.2⟩
set_option maxHeartbeats 1600000 in
set_option maxRecDepth 1000000 in
theorem l02DrawNumber_any (b B n : Nat) (v : Value) (Z : List Int) (w : World) (hB : B ≤ b) (hn : n ≤ 50) (hZ : Z.length ≤ 1048576) (hs : SrcAt w b v n) (hu : U8Old B w v Z) :
    Calls Tryz.prog 29 #[.pointer (some ⟨b, 0, none⟩)] w (NumRet (-1000000001) 1000000001 b B v Z (n + 3) w) := by
  have q1 := Lib.hid (one_any 8 (by decide) (by decide) b B n v Z w hB (by omega) hZ hs hu)
  have qa := Lib.hid (fun C t n W (hn : n ≤ 90) hs hu => among_alloc [0, 1000000000, 1000000001, -1000000000, -1000000001, 7, -7] (by decide) (by decide) C t b B n v Z W hB hn hZ hs hu)
  have qp := Lib.hid (fun n W (hn : n ≤ 90) => pick_any 4000 (by decide) (by decide) b B n v Z W hB hn hZ)
  clear hs hu
  go_enter Tryz.func29, Tryz.ntmps29
  go_wp2_with fail
  refine q1.out.mono ?_
  rintro e w1 ⟨t, rfl, s1, u1, g1⟩
  cases t
  · have p1 := Lib.hid (qp.out (n + 1) w1 (by omega) s1 u1)
    have G1 := Lib.hid g1
    clear s1 u1 g1 qp qa q1
    go_wp2_with fail
    refine p1.out.mono ?_
    rintro e w2 ⟨r, rfl, a2, b2, s2, u2, g2⟩
    have q4 := Lib.hid (And.intro s2 (And.intro u2 (gtrans G1.out g2)))
    clear s2 u2 g2 p1 G1
    go_wp2
    go_ret
    exact ⟨_, _, rfl, by omega, by omega, by omega, q4.out.1, q4.out.2.1, q4.out.2.2⟩
  · have p1 := Lib.hid (fun C t => qa.out C t (n + 1) w1 (by omega) s1 u1)
    have G1 := Lib.hid g1
    clear s1 u1 g1 qp qa q1
    go_wp2_with fail
    refine (p1.out _ _ rfl).mono ?_
    rintro e w2 ⟨r, rfl, hr, s2, u2, g2⟩
    have hb : -1000000001 ≤ r ∧ r ≤ 1000000001 := by
      simp only [List.mem_cons, List.mem_nil_iff, or_false] at hr
      omega
    have q4 := Lib.hid (And.intro s2 (And.intro u2 (gtrans G1.out g2)))
    clear s2 u2 g2 G1 p1 hr
    go_wp2
    go_ret
    exact ⟨_, _, rfl, hb.1, hb.2, by omega, q4.out.1, q4.out.2.1, q4.out.2.2⟩
set_option maxHeartbeats 1600000 in
set_option maxRecDepth 1000000 in
theorem l02DrawPlaces_any (b B n : Nat) (v : Value) (Z : List Int) (w : World) (hB : B ≤ b) (hn : n ≤ 50) (hZ : Z.length ≤ 1048576) (hs : SrcAt w b v n) (hu : U8Old B w v Z) :
    Calls Tryz.prog 30 #[.pointer (some ⟨b, 0, none⟩)] w (NumRet (0) 7 b B v Z (n + 1) w) := by
  have p1 := Lib.hid (fun C t => among_alloc [1, 2, 3, 6, 0, 7, 2, 3] (by decide) (by decide) C t b B n v Z w hB (by omega) hZ hs hu)
  clear hs hu
  go_enter Tryz.func30, Tryz.ntmps30
  go_wp2_with fail
  refine (p1.out _ _ rfl).mono ?_
  rintro e w2 ⟨r, rfl, hr, s2, u2, g2⟩
  have hb : 0 ≤ r ∧ r ≤ 7 := by
    simp only [List.mem_cons, List.mem_nil_iff, or_false] at hr
    omega
  have q4 := Lib.hid (And.intro s2 (And.intro u2 g2))
  clear s2 u2 g2 p1 hr
  go_wp2
  go_ret
  exact ⟨_, _, rfl, hb.1, hb.2, by omega, q4.out.1, q4.out.2.1, q4.out.2.2⟩
set_option maxHeartbeats 1600000 in
set_option maxRecDepth 1000000 in
theorem DrawLapText_any (v : Value) (Z : List Int) (w : World) (hZ : Z.length ≤ 1048576) (hu : U8Old w.heap.size w v Z) :
    Calls Tryz.prog 11 #[v] w fun e w' => ∃ r, e = .returned (.int .i64 r) ∧ -1 ≤ r ∧ r ≤ 1000000001 ∧ Below w.heap.size w w' := by
  have q0 := from_any v Z w hu
  clear hu
  have qd := Lib.hid (fun b W (hb : w.heap.size ≤ b) => l02DrawMass_any b w.heap.size 0 v Z W hb (by decide) hZ)
  go_enter Tryz.func11, Tryz.ntmps11
  go_wp2_with fail
  refine q0.out.mono ?_
  rintro e w1 ⟨b, rfl, hb, s1, u1, g1⟩
  have G1 := Lib.hid g1
  have p1 := Lib.hid (qd.out b w1 hb s1 u1)
  clear s1 u1 q0 g1 qd
  go_wp2_with fail
  refine p1.out.mono ?_
  rintro e w2 ⟨r, m, rfl, a2, b2, hm, s2, u2, g2⟩
  have G2 := Lib.hid (G1.out.grown g2 G1.out.size (fun k hk => (by injection hk with hk; omega)))
  clear s2 u2 p1 g2 G1
  go_wp2
  go_ret
  exact ⟨_, rfl, a2, b2, G2.out⟩
set_option maxHeartbeats 1600000 in
set_option maxRecDepth 1000000 in
theorem DrawLengthText_any (v : Value) (Z : List Int) (w : World) (hZ : Z.length ≤ 1048576) (hu : U8Old w.heap.size w v Z) :
    Calls Tryz.prog 15 #[v] w fun e w' => ∃ r, e = .returned (.int .i64 r) ∧ -1 ≤ r ∧ r ≤ 1000000001 ∧ Below w.heap.size w w' := by
  have q0 := from_any v Z w hu
  clear hu
  have qd := Lib.hid (fun b W (hb : w.heap.size ≤ b) => l02DrawMass_any b w.heap.size 0 v Z W hb (by decide) hZ)
  go_enter Tryz.func15, Tryz.ntmps15
  go_wp2_with fail
  refine q0.out.mono ?_
  rintro e w1 ⟨b, rfl, hb, s1, u1, g1⟩
  have G1 := Lib.hid g1
  have p1 := Lib.hid (qd.out b w1 hb s1 u1)
  clear s1 u1 q0 g1 qd
  go_wp2_with fail
  refine p1.out.mono ?_
  rintro e w2 ⟨r, m, rfl, a2, b2, hm, s2, u2, g2⟩
  have G2 := Lib.hid (G1.out.grown g2 G1.out.size (fun k hk => (by injection hk with hk; omega)))
  clear s2 u2 p1 g2 G1
  go_wp2
  go_ret
  exact ⟨_, rfl, a2, b2, G2.out⟩
set_option maxHeartbeats 1600000 in
set_option maxRecDepth 1000000 in
theorem DrawFixedText_any (v : Value) (Z : List Int) (w : World) (hZ : Z.length ≤ 1048576) (hu : U8Old w.heap.size w v Z) :
    Calls Tryz.prog 8 #[v] w fun e w' => ∃ r q, e = .returned (.tuple #[.int .i64 r, .int .i64 q]) ∧ -1000000001 ≤ r ∧ r ≤ 1000000001 ∧ 0 ≤ q ∧ q ≤ 7 ∧ Below w.heap.size w w' := by
  have q0 := from_any v Z w hu
  clear hu
  have qd := Lib.hid (fun b W (hb : w.heap.size ≤ b) => l02DrawNumber_any b w.heap.size 0 v Z W hb (by decide) hZ)
  have qe := Lib.hid (fun b n W (hb : w.heap.size ≤ b) (hn : n ≤ 50) => l02DrawPlaces_any b w.heap.size n v Z W hb hn hZ)
  go_enter Tryz.func8, Tryz.ntmps8
  go_wp2_with fail
  refine q0.out.mono ?_
  rintro e w1 ⟨b, rfl, hb, s1, u1, g1⟩
  have G1 := Lib.hid g1
  have p1 := Lib.hid (qd.out b w1 hb s1 u1)
  clear s1 u1 q0 g1 qd
  go_wp2_with fail
  refine p1.out.mono ?_
  rintro e w2 ⟨r, m, rfl, a2, b2, hm, s2, u2, g2⟩
  have G2 := Lib.hid (G1.out.grown g2 G1.out.size (fun k hk => (by injection hk with hk; omega)))
  have p2 := Lib.hid (qe.out b m w2 hb (by omega) s2 u2)
  clear s2 u2 p1 g2 G1 qe
  go_wp2_with fail
  refine p2.out.mono ?_
  rintro e w3 ⟨q, m3, rfl, a3, b3, hm3, s3, u3, g3⟩
  have G3 := Lib.hid (G2.out.grown g3 G2.out.size (fun k hk => (by injection hk with hk; omega)))
  clear s3 u3 p2 g3 G2
  go_wp2
  go_ret2
  exact ⟨_, _, rfl, a2, b2, a3, b3, G3.out⟩
set_option maxHeartbeats 1600000 in
set_option maxRecDepth 1000000 in
theorem DrawClockText_any (v : Value) (Z : List Int) (w : World) (hZ : Z.length ≤ 1048576) (hu : U8Old w.heap.size w v Z) :
    Calls Tryz.prog 5 #[v] w fun e w' => ∃ r, e = .returned (.int .i64 r) ∧ -1 ≤ r ∧ r ≤ 1440 ∧ Below w.heap.size w w' := by
  have q0 := from_any v Z w hu
  clear hu
  have q1 := Lib.hid (fun b W (hb : w.heap.size ≤ b) => one_any 8 (by decide) (by decide) b w.heap.size 0 v Z W hb (by decide) hZ)
  have qa := Lib.hid (fun b C t n W (hb : w.heap.size ≤ b) (hn : n ≤ 90) hs hu => among_alloc [-1, 0, 1439, 1440] (by decide) (by decide) C t b w.heap.size n v Z W hb hn hZ hs hu)
  have qp := Lib.hid (fun b n W (hb : w.heap.size ≤ b) (hn : n ≤ 90) => pick_any 240 (by decide) (by decide) b w.heap.size n v Z W hb hn hZ)
  have qs := Lib.hid (fun b n W (hb : w.heap.size ≤ b) (hn : n ≤ 90) => pickS_any 6 (by decide) (by decide) b w.heap.size n v Z W hb hn hZ)
  go_enter Tryz.func5, Tryz.ntmps5
  go_wp2_with fail
  refine q0.out.mono ?_
  rintro e w1 ⟨b, rfl, hb, s1, u1, g1⟩
  have G1 := Lib.hid g1
  have p1 := Lib.hid (q1.out b w1 hb s1 u1)
  clear s1 u1 q0 g1 q1
  go_wp2_with fail
  refine p1.out.mono ?_
  rintro e w2 ⟨t, rfl, s2, u2, g2⟩
  have G2 := Lib.hid (G1.out.grown g2 G1.out.size (fun k hk => (by injection hk with hk; omega)))
  clear p1 g2 G1
  cases t
  · have p2 := Lib.hid (qp.out b 1 w2 hb (by decide) s2 u2)
    clear s2 u2 qp qa
    go_wp2_with fail
    refine p2.out.mono ?_
    rintro e w3 ⟨r, rfl, a3, b3, s3, u3, g3⟩
    have G3 := Lib.hid (G2.out.grown g3 G2.out.size (fun k hk => (by injection hk with hk; omega)))
    have p3 := Lib.hid (qs.out b 3 w3 hb (by decide) s3 u3)
    clear s3 u3 p2 g3 G2 qs
    go_wp2_with fail
    refine p3.out.mono ?_
    rintro e w4 ⟨r4, rfl, a4, b4, s4, u4, g4⟩
    have G4 := Lib.hid (G3.out.grown g4 G3.out.size (fun k hk => (by injection hk with hk; omega)))
    clear s4 u4 p3 g4 G3
    go_wp2
    go_ret
    exact ⟨_, rfl, by omega, by omega, G4.out⟩
  · have p2 := Lib.hid (fun C t => qa.out b C t 1 w2 hb (by decide) s2 u2)
    clear s2 u2 qp qs qa
    go_wp2_with fail
    refine (p2.out _ _ rfl).mono ?_
    rintro e w3 ⟨r, rfl, hr, s3, u3, g3⟩
    have hb3 : -1 ≤ r ∧ r ≤ 1440 := by
      simp only [List.mem_cons, List.mem_nil_iff, or_false] at hr
      omega
    have G3 := Lib.hid (G2.out.grown g3 G2.out.size (fun k hk => (by injection hk with hk; omega)))
    clear s3 u3 p2 g3 G2 hr
    go_wp2
    go_ret
    exact ⟨_, rfl, hb3.1, hb3.2, G3.out⟩
set_option maxHeartbeats 1600000 in
set_option maxRecDepth 1000000 in
theorem DrawPiecesFrom_any (v : Value) (Z : List Int) (w : World) (hZ : Z.length ≤ 1048576) (hu : U8Old w.heap.size w v Z) :
    Calls Tryz.prog 20 #[v] w fun e w' => ∃ r p q, e = .returned (.tuple #[.int .i64 r, .int .i64 p, .int .i64 q]) ∧ -1 ≤ r ∧ r ≤ 1000000001 ∧ 0 ≤ p ∧ p ≤ 1000000001 ∧ -1 ≤ q ∧ q ≤ 1001 ∧ Below w.heap.size w w' := by
  have q0 := from_any v Z w hu
  clear hu
  have qd := Lib.hid (fun b W (hb : w.heap.size ≤ b) => l02DrawMass_any b w.heap.size 0 v Z W hb (by decide) hZ)
  have qp := Lib.hid (fun b n W (hb : w.heap.size ≤ b) (hn : n ≤ 90) => pick_any 900 (by decide) (by decide) b w.heap.size n v Z W hb hn hZ)
  have q1 := Lib.hid (fun b n W (hb : w.heap.size ≤ b) (hn : n ≤ 90) => one_any 9 (by decide) (by decide) b w.heap.size n v Z W hb hn hZ)
  have qa := Lib.hid (fun b C t n W (hb : w.heap.size ≤ b) (hn : n ≤ 90) hs hu => among_alloc [0, 1, 1000000000, 1000000001] (by decide) (by decide) C t b w.heap.size n v Z W hb hn hZ hs hu)
  have qe := Lib.hid (fun b C t n W (hb : w.heap.size ≤ b) (hn : n ≤ 90) hs hu => among_alloc [0, 0, 1, 5, 30, 1000, 1001, -1] (by decide) (by decide) C t b w.heap.size n v Z W hb hn hZ hs hu)
  go_enter Tryz.func20, Tryz.ntmps20
  go_wp2_with fail
  refine q0.out.mono ?_
  rintro e w1 ⟨b, rfl, hb, s1, u1, g1⟩
  have G1 := Lib.hid g1
  have p1 := Lib.hid (qd.out b w1 hb s1 u1)
  clear s1 u1 q0 g1 qd
  go_wp2_with fail
  refine p1.out.mono ?_
  rintro e w2 ⟨r, m, rfl, a2, b2, hm, s2, u2, g2⟩
  have G2 := Lib.hid (G1.out.grown g2 G1.out.size (fun k hk => (by injection hk with hk; omega)))
  have p2 := Lib.hid (qp.out b m w2 hb (by omega) s2 u2)
  clear s2 u2 p1 g2 G1 qp
  go_wp2_with fail
  refine p2.out.mono ?_
  rintro e w3 ⟨p, rfl, a3, b3, s3, u3, g3⟩
  have G3 := Lib.hid (G2.out.grown g3 G2.out.size (fun k hk => (by injection hk with hk; omega)))
  have p3 := Lib.hid (q1.out b (m + 2) w3 hb (by omega) s3 u3)
  clear s3 u3 p2 g3 G2 q1
  go_wp2_with fail
  refine p3.out.mono ?_
  rintro e w4 ⟨t, rfl, s4, u4, g4⟩
  have G4 := Lib.hid (G3.out.grown g4 G3.out.size (fun k hk => (by injection hk with hk; omega)))
  clear p3 g4 G3
  cases t
  · have p4 := Lib.hid (fun C t => qe.out b C t (m + 2 + 1) w4 hb (by omega) s4 u4)
    clear s4 u4 qe qa
    go_wp2_with fail
    refine (p4.out _ _ rfl).mono ?_
    rintro e w5 ⟨q, rfl, hr, s5, u5, g5⟩
    have hb3 : -1 ≤ q ∧ q ≤ 1001 := by
      simp only [List.mem_cons, List.mem_nil_iff, or_false] at hr
      omega
    have G5 := Lib.hid (G4.out.grown g5 G4.out.size (fun k hk => (by injection hk with hk; omega)))
    clear s5 u5 p4 g5 G4 hr
    go_wp2
    go_ret3
    exact ⟨_, _, _, rfl, a2, b2, by omega, by omega, hb3.1, hb3.2, G5.out⟩
  · have p4 := Lib.hid (fun C t => qa.out b C t (m + 2 + 1) w4 hb (by omega) s4 u4)
    clear s4 u4 qa
    go_wp2_with fail
    refine (p4.out _ _ rfl).mono ?_
    rintro e w5 ⟨p', rfl, hr5, s5, u5, g5⟩
    have hb5 : 0 ≤ p' ∧ p' ≤ 1000000001 := by
      simp only [List.mem_cons, List.mem_nil_iff, or_false] at hr5
      omega
    have G5 := Lib.hid (G4.out.grown g5 G4.out.size (fun k hk => (by injection hk with hk; omega)))
    have p5 := Lib.hid (fun C t => qe.out b C t (m + 2 + 1 + 1) w5 hb (by omega) s5 u5)
    clear s5 u5 p4 g5 G4 hr5 qe
    go_wp2_with fail
    refine (p5.out _ _ rfl).mono ?_
    rintro e w6 ⟨q, rfl, hr, s6, u6, g6⟩
    have hb3 : -1 ≤ q ∧ q ≤ 1001 := by
      simp only [List.mem_cons, List.mem_nil_iff, or_false] at hr
      omega
    have G6 := Lib.hid (G5.out.grown g6 G5.out.size (fun k hk => (by injection hk with hk; omega)))
    clear s6 u6 p5 g6 G5 hr
    go_wp2
    go_ret3
    exact ⟨_, _, _, rfl, a2, b2, hb5.1, hb5.2, hb3.1, hb3.2, G6.out⟩
end Go.Proofs.YtmknafkngggfjaaGreatDoor
