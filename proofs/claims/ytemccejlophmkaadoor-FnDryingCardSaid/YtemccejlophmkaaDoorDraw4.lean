/-
  The model's drawn stacks: what is known of each draw is its bounds.
-/
import Derived.Test.YtemccejlophmkaaDoorDraw
import Derived.Test.YtemccejlophmkaaDoorStk
import Derived.Deep.RegionWith
namespace Go.Proofs.YtemccejlophmkaaDoor
open Go.ChangeShapes Go.WideShapes Go.ChangeAt Go.RowKit Go.Deep
set_option linter.unusedVariables false
set_option maxRecDepth 1000000
set_option linter.unusedSimpArgs false
theorem grown_set (w : World) (a : Addr) (u : Value) : w.grownBy (w.setCell a u) (some a.block) :=
  ⟨rfl, rfl, rfl, by simp, fun k _ hk => Below.heap_setCell _ _ _ k (fun e => hk (by rw [e]))⟩
theorem lt_some {w : World} {b : Nat} {o : Obj} (h : w.heap[b]? = some o) : b < w.heap.size := (Array.getElem?_eq_some_iff.1 h).1
theorem grown_new {w w1 : World} {r : Option Nat} (h : w.grownBy w1 r) (a : Addr) (ha : w.heap.size ≤ a.block) (u : Value) : w.grownBy (w1.setCell a u) r :=
  ⟨h.os, h.tape, h.output, by have := h.size; simpa using this, fun k hk hr => (Below.heap_setCell _ _ _ k (by omega)).trans (h.block k hk hr)⟩
theorem grown_alloc {w w1 : World} {r : Option Nat} (h : w.grownBy w1 r) (o : Obj) : w.grownBy (w1.alloc o) r := gtrans h (below_grown' ((Below.refl _ _).alloc (Nat.le_refl _) _) r)
theorem grown_drew {w w1 : World} {r : Option Nat} (h : w.grownBy w1 r) (n : Nat) : w.grownBy (w1.drewN n) r := ⟨h.os, h.tape, h.output, h.size, h.block⟩
theorem src_set1 {w : World} {b n : Nat} {v : Value} (h : SrcAt w b v n) (a : Addr) (ha : a.block ≠ b) (u : Value) : SrcAt (w.setCell a u) b v n := by
  obtain ⟨h0, c0, c1, ⟨s, c2⟩, z1, z2⟩ := h
  have e : (w.setCell a u).heap[b]? = w.heap[b]? := Below.heap_setCell _ _ _ b (fun h => ha h.symm)
  refine ⟨by simpa using h0, (cell_block e).trans c0, (cell_block e).trans c1, ⟨s, (cell_block e).trans c2⟩, ?_, ?_⟩
  · rw [← z1]; simp only [World.frozen?, e]
  · rw [← z2]; simp only [World.frozen?, e]
theorem src_alloc {w : World} {b n : Nat} {v : Value} (h : SrcAt w b v n) (o : Obj) : SrcAt (w.alloc o) b v n := h.below ((Below.refl _ _).alloc (Nat.le_refl _) _)
theorem u8_set1 {B : Nat} {w : World} {v : Value} {Z : List Int} (h : U8Old B w v Z) (a : Addr) (ha : B ≤ a.block) (u : Value) : U8Old B (w.setCell a u) v Z := h.other (grown_set w a u) ha
theorem u8_alloc {B : Nat} {w : World} {v : Value} {Z : List Int} (h : U8Old B w v Z) (o : Obj) : U8Old B (w.alloc o) v Z := h.below ((Below.refl _ _).alloc (Nat.le_refl _) _)
/-- what a drawn stack leaves -/
def StkRet (s : ByteArray) (b B : Nat) (v : Value) (Z : List Int) (n : Nat) (w : World) (e : Ending) (w' : World) : Prop :=
  ∃ (x y z : Int) (m : Nat), e = .returned (.agg #[.string s, .int .i64 x, .int .i64 y, .int .i64 z]) ∧ (-1 ≤ x ∧ x ≤ 40000) ∧ (-1 ≤ y ∧ y ≤ 40000) ∧ (-1 ≤ z ∧ z ≤ 40000) ∧ m ≤ n ∧ SrcAt w' b v m ∧ U8Old B w' v Z ∧ w.grownBy w' (some b)
set_option maxHeartbeats 3200000 in
theorem l04DrawShare_any (b B n : Nat) (v : Value) (Z : List Int) (w : World) (hB : B ≤ b) (hn : n ≤ 50) (hZ : Z.length ≤ 1048576) (hs : SrcAt w b v n) (hu : U8Old B w v Z) :
    Calls Tryd.prog 18 #[.pointer (some ⟨b, 0, none⟩)] w (NumRet (-1) 1001 b B v Z (n + 2) w) := by
  have q1 := Lib.hid (one_any 9 (by decide) (by decide) b B n v Z w hB (by omega) hZ hs hu)
  have qa := Lib.hid (fun C t n W (hn : n ≤ 90) hs hu => among_alloc [-1, 0, 1000, 1001] (by decide) (by decide) C t b B n v Z W hB hn hZ hs hu)
  have qs := Lib.hid (fun n W (hn : n ≤ 90) => pickS_any 100 (by decide) (by decide) b B n v Z W hB hn hZ)
  clear hs hu
  go_enter Tryd.func18, Tryd.ntmps18
  go_wp2_with fail
  refine q1.out.mono ?_
  rintro e w1 ⟨t, rfl, s1, u1, g1⟩
  cases t
  · have p1 := Lib.hid (qs.out (n + 1) w1 (by omega) s1 u1)
    have G1 := Lib.hid g1
    clear s1 u1 g1 qs qa q1
    go_wp2_with fail
    refine p1.out.mono ?_
    rintro e w2 ⟨r, rfl, a2, b2, s2, u2, g2⟩
    have q4 := Lib.hid (And.intro s2 (And.intro u2 (gtrans G1.out g2)))
    clear s2 u2 g2 G1 p1
    go_wp2
    go_ret
    exact ⟨_, _, rfl, by omega, by omega, by omega, q4.out.1, q4.out.2.1, q4.out.2.2⟩
  · have p1 := Lib.hid (fun C t => qa.out C t (n + 1) w1 (by omega) s1 u1)
    have G1 := Lib.hid g1
    clear s1 u1 g1 qs qa q1
    go_wp2_with fail
    refine (p1.out _ _ rfl).mono ?_
    rintro e w2 ⟨r, rfl, hr, s2, u2, g2⟩
    have hb : -1 ≤ r ∧ r ≤ 1001 := by
      simp only [List.mem_cons, List.mem_nil_iff, or_false] at hr
      omega
    have q4 := Lib.hid (And.intro s2 (And.intro u2 (gtrans G1.out g2)))
    clear s2 u2 g2 G1 p1 hr
    go_wp2
    go_ret
    exact ⟨_, _, rfl, hb.1, hb.2, by omega, q4.out.1, q4.out.2.1, q4.out.2.2⟩
set_option maxHeartbeats 3200000 in
theorem l04DrawGoal_any (b B n : Nat) (v : Value) (Z : List Int) (w : World) (hB : B ≤ b) (hn : n ≤ 50) (hZ : Z.length ≤ 1048576) (hs : SrcAt w b v n) (hu : U8Old B w v Z) :
    Calls Tryd.prog 25 #[.pointer (some ⟨b, 0, none⟩)] w (NumRet (-1) 1001 b B v Z (n + 2) w) := by
  have q1 := Lib.hid (one_any 9 (by decide) (by decide) b B n v Z w hB (by omega) hZ hs hu)
  have qa := Lib.hid (fun C t n W (hn : n ≤ 90) hs hu => among_alloc [-1, 0, 1000, 1001] (by decide) (by decide) C t b B n v Z W hB hn hZ hs hu)
  have qs := Lib.hid (fun n W (hn : n ≤ 90) => pickS_any 50 (by decide) (by decide) b B n v Z W hB hn hZ)
  clear hs hu
  go_enter Tryd.func25, Tryd.ntmps25
  go_wp2_with fail
  refine q1.out.mono ?_
  rintro e w1 ⟨t, rfl, s1, u1, g1⟩
  cases t
  · have p1 := Lib.hid (qs.out (n + 1) w1 (by omega) s1 u1)
    have G1 := Lib.hid g1
    clear s1 u1 g1 qs qa q1
    go_wp2_with fail
    refine p1.out.mono ?_
    rintro e w2 ⟨r, rfl, a2, b2, s2, u2, g2⟩
    have q4 := Lib.hid (And.intro s2 (And.intro u2 (gtrans G1.out g2)))
    clear s2 u2 g2 G1 p1
    go_wp2
    go_ret
    exact ⟨_, _, rfl, by omega, by omega, by omega, q4.out.1, q4.out.2.1, q4.out.2.2⟩
  · have p1 := Lib.hid (fun C t => qa.out C t (n + 1) w1 (by omega) s1 u1)
    have G1 := Lib.hid g1
    clear s1 u1 g1 qs qa q1
    go_wp2_with fail
    refine (p1.out _ _ rfl).mono ?_
    rintro e w2 ⟨r, rfl, hr, s2, u2, g2⟩
    have hb : -1 ≤ r ∧ r ≤ 1001 := by
      simp only [List.mem_cons, List.mem_nil_iff, or_false] at hr
      omega
    have q4 := Lib.hid (And.intro s2 (And.intro u2 (gtrans G1.out g2)))
    clear s2 u2 g2 G1 p1 hr
    go_wp2
    go_ret
    exact ⟨_, _, rfl, hb.1, hb.2, by omega, q4.out.1, q4.out.2.1, q4.out.2.2⟩
set_option maxHeartbeats 3200000 in
theorem l04DrawDays_any (b B n : Nat) (v : Value) (Z : List Int) (w : World) (hB : B ≤ b) (hn : n ≤ 50) (hZ : Z.length ≤ 1048576) (hs : SrcAt w b v n) (hu : U8Old B w v Z) :
    Calls Tryd.prog 19 #[.pointer (some ⟨b, 0, none⟩)] w (NumRet (-1) 4001 b B v Z (n + 1) w) := by
  have qa := Lib.hid (fun C t => among_alloc [0, 1, 10, 90, 400, 1500, 4000, 4001, -1] (by decide) (by decide) C t b B n v Z w hB (by omega) hZ hs hu)
  clear hs hu
  go_enter Tryd.func19, Tryd.ntmps19
  go_wp2_with fail
  refine (qa.out _ _ rfl).mono ?_
  rintro e w2 ⟨r, rfl, hr, s2, u2, g2⟩
  have hb : -1 ≤ r ∧ r ≤ 4001 := by
    simp only [List.mem_cons, List.mem_nil_iff, or_false] at hr
    omega
  have q4 := Lib.hid (And.intro s2 (And.intro u2 g2))
  clear s2 u2 g2 qa hr
  go_wp2
  go_ret
  exact ⟨_, _, rfl, hb.1, hb.2, by omega, q4.out.1, q4.out.2.1, q4.out.2.2⟩
set_option maxHeartbeats 3200000 in
theorem l04DrawOne_any (s : ByteArray) (b B n : Nat) (v : Value) (Z : List Int) (w : World) (hB : B ≤ b) (hn : n ≤ 50) (hZ : Z.length ≤ 1048576) (hs : SrcAt w b v n) (hu : U8Old B w v Z) :
    Calls Tryd.prog 17 #[.pointer (some ⟨b, 0, none⟩), .string s] w (StkRet s b B v Z (n + 4) w) := by
  have hA : Below w.heap.size w (w.alloc (.cells #[.string ByteArray.empty, .int .i64 0, .int .i64 0, .int .i64 0] 25)) := (Below.refl _ _).alloc (Nat.le_refl _) _
  have q1 := Lib.hid (pickS_any 120 (by decide) (by decide) b B n v Z (w.alloc (.cells #[.string ByteArray.empty, .int .i64 0, .int .i64 0, .int .i64 0] 25)) hB (by omega) hZ (hs.below hA) (hu.below hA))
  have q2 := Lib.hid (fun n W (hn : n ≤ 90) => pickS_any 50 (by decide) (by decide) b B n v Z W hB hn hZ)
  have q3 := Lib.hid (fun n W (hn : n ≤ 90) => pick_any 900 (by decide) (by decide) b B n v Z W hB hn hZ)
  have hbw : b < w.heap.size := hs.1
  have hR0 := heap_alloc_new w (.cells #[.string ByteArray.empty, .int .i64 0, .int .i64 0, .int .i64 0] 25)
  clear hs hu hA
  go_enter Tryd.func17, Tryd.ntmps17
  go_wp2_with fail
  refine q1.out.mono ?_
  rintro e w1 ⟨r1, rfl, a1, b1, s1, u1, g1⟩
  have p2 := Lib.hid (q2.out (n + 1) w1 (by omega) s1 u1)
  have G1 := Lib.hid (gtrans (below_grown' ((Below.refl _ _).alloc (Nat.le_refl _) _) _) g1)
  have hR1 := (g1.block w.heap.size (by simp) (by intro h; injection h; omega)).trans hR0
  have z1 : w.heap.size < w1.heap.size := lt_some hR1
  clear s1 u1 g1 q1 q2 hR0
  go_wp2_with fail
  refine p2.out.mono ?_
  rintro e w2 ⟨r2, rfl, a2, b2, s2, u2, g2⟩
  obtain ⟨X, hX⟩ : ∃ X, X = Obj.cells #[.string s, .int .i64 (5 * r1), .int .i64 (10 + 10 * r2), .int .i64 0] 25 (0, 0) := ⟨_, rfl⟩
  have hX' := Lib.hid hX
  have p3 := Lib.hid (fun X => q3.out (n + 1 + 1) (w2.alloc X) (by omega) (src_alloc s2 _) (u8_alloc u2 _))
  have G2 := Lib.hid (gtrans G1.out g2)
  have hR2 := (g2.block w.heap.size z1 (by intro h; injection h; omega)).trans hR1
  have z2 : w.heap.size < w2.heap.size := lt_some hR2
  clear s2 u2 g2 p2 G1 hR1 hX
  go_wp2_with fail
  refine (p3.out _).mono ?_
  rintro e w3 ⟨r3, rfl, a3, b3, s3, u3, g3⟩
  have hX3 := (g3.block w2.heap.size (by simp) (by intro h; injection h; omega)).trans (heap_alloc_new w2 _)
  have hR3 := (g3.block w.heap.size (by simp; omega) (by intro h; injection h; omega)).trans ((Below.heap_alloc _ _ _ z2).trans hR2)
  have hne : w.heap.size ≠ w2.heap.size := by omega
  have hne' : w2.heap.size ≠ w.heap.size := by omega
  have q4 := Lib.hid (And.intro s3 (And.intro u3 (gtrans (gtrans G2.out (below_grown' ((Below.refl _ _).alloc (Nat.le_refl _) _) _)) g3)))
  have cX0 : w3.cell? ⟨w2.heap.size, 0, none⟩ = some (.string s) := cellB hX3 0 _ rfl
  have fX0 := freeB hX3 0
  have cX1 : w3.cell? ⟨w2.heap.size, 1, none⟩ = some (.int .i64 (5 * r1)) := cellB hX3 1 _ rfl
  have fX1 := freeB hX3 1
  have cX2 : w3.cell? ⟨w2.heap.size, 2, none⟩ = some (.int .i64 (10 + 10 * r2)) := cellB hX3 2 _ rfl
  have fX2 := freeB hX3 2
  have cX3 : w3.cell? ⟨w2.heap.size, 3, none⟩ = some (.int .i64 0) := cellB hX3 3 _ rfl
  have fX3 := freeB hX3 3
  have cR0 : w3.cell? ⟨w.heap.size, 0, none⟩ = some (.string ByteArray.empty) := cellB hR3 0 _ rfl
  have fR0 := freeB hR3 0
  have cR1 : w3.cell? ⟨w.heap.size, 1, none⟩ = some (.int .i64 0) := cellB hR3 1 _ rfl
  have fR1 := freeB hR3 1
  have cR2 : w3.cell? ⟨w.heap.size, 2, none⟩ = some (.int .i64 0) := cellB hR3 2 _ rfl
  have fR2 := freeB hR3 2
  have cR3 : w3.cell? ⟨w.heap.size, 3, none⟩ = some (.int .i64 0) := cellB hR3 3 _ rfl
  have fR3 := freeB hR3 3
  clear s3 u3 g3 p3 q3 hX3 hR3 hR2 hX' G2
  go_wp2
  refine bodyPost_ret (v := .agg #[.string s, .int .i64 (5 * r1), .int .i64 (10 + 10 * r2), .int .i64 (8000 + r3)]) (by simp [results, Tryd.results17, go_sem, cX0, cX1, cX2, cX3, cR0, cR1, cR2, cR3, hne, hne']) rfl ⟨_, _, _, n + 1 + 1 + 2, rfl, by omega, by omega, by omega, by omega, ?_, ?_, ?_⟩
  · repeat (first | (with_reducible exact q4.out.1) | with_reducible refine src_set1 ?_ _ (by first | (simp; done) | (simp; omega) | omega) _ | with_reducible refine src_alloc ?_ _)
  · repeat (first | (with_reducible exact q4.out.2.1) | with_reducible refine u8_set1 ?_ _ (by first | (simp; done) | (simp; omega) | omega) _ | with_reducible refine u8_alloc ?_ _)
  · repeat (first | (with_reducible exact q4.out.2.2) | with_reducible refine grown_new ?_ _ (by first | (simp; done) | (simp; omega) | omega) _ | with_reducible refine grown_alloc ?_ _)
set_option maxHeartbeats 3200000 in
theorem l04Bent_any (s : ByteArray) (x y z : Int) (b B n : Nat) (v : Value) (Z : List Int) (w : World) (hB : B ≤ b) (hn : n ≤ 50) (hZ : Z.length ≤ 1048576) (hx : -1 ≤ x ∧ x ≤ 40000) (hy : -1 ≤ y ∧ y ≤ 40000) (hz : -1 ≤ z ∧ z ≤ 40000) (hs : SrcAt w b v n) (hu : U8Old B w v Z) :
    Calls Tryd.prog 16 #[.pointer (some ⟨b, 0, none⟩), .agg #[.string s, .int .i64 x, .int .i64 y, .int .i64 z]] w (StkRet s b B v Z (n + 2) w) := by
  have hA : Below w.heap.size w ((w.alloc (.cells #[.string s, .int .i64 x, .int .i64 y, .int .i64 z] 25)).alloc (.cells #[.string ByteArray.empty, .int .i64 0, .int .i64 0, .int .i64 0] 25)) := ((Below.refl _ _).alloc (Nat.le_refl _) _).alloc (by simp) _
  have q1 := Lib.hid (pickS_any 20 (by decide) (by decide) b B n v Z ((w.alloc (.cells #[.string s, .int .i64 x, .int .i64 y, .int .i64 z] 25)).alloc (.cells #[.string ByteArray.empty, .int .i64 0, .int .i64 0, .int .i64 0] 25)) hB (by omega) hZ (hs.below hA) (hu.below hA))
  have hbw : b < w.heap.size := hs.1
  have hX0 : ((w.alloc (.cells #[.string s, .int .i64 x, .int .i64 y, .int .i64 z] 25)).alloc (.cells #[.string ByteArray.empty, .int .i64 0, .int .i64 0, .int .i64 0] 25)).heap[w.heap.size]? = some (.cells #[.string s, .int .i64 x, .int .i64 y, .int .i64 z] 25) := (Below.heap_alloc _ _ _ (by simp)).trans (heap_alloc_new w (.cells #[.string s, .int .i64 x, .int .i64 y, .int .i64 z] 25))
  have hR0 : ((w.alloc (.cells #[.string s, .int .i64 x, .int .i64 y, .int .i64 z] 25)).alloc (.cells #[.string ByteArray.empty, .int .i64 0, .int .i64 0, .int .i64 0] 25)).heap[w.heap.size + 1]? = some (.cells #[.string ByteArray.empty, .int .i64 0, .int .i64 0, .int .i64 0] 25) := by
    have := heap_alloc_new (w.alloc (.cells #[.string s, .int .i64 x, .int .i64 y, .int .i64 z] 25)) (.cells #[.string ByteArray.empty, .int .i64 0, .int .i64 0, .int .i64 0] 25)
    rwa [World.size_alloc] at this
  have hAg := below_grown' hA (some b)
  have hsz : ((w.alloc (.cells #[.string s, .int .i64 x, .int .i64 y, .int .i64 z] 25)).alloc (.cells #[.string ByteArray.empty, .int .i64 0, .int .i64 0, .int .i64 0] 25)).heap.size = w.heap.size + 2 := by simp
  clear hs hu hA
  go_enter Tryd.func16, Tryd.ntmps16
  go_wp2_with fail
  refine q1.out.mono ?_
  rintro e w1 ⟨r, rfl, a1, b1, s1, u1, g1⟩
  have hX1 := (g1.block w.heap.size (by omega) (by intro h; injection h; omega)).trans hX0
  have hR1 := (g1.block (w.heap.size + 1) (by omega) (by intro h; injection h; omega)).trans hR0
  have zX := lt_some hX1
  have zR := lt_some hR1
  have g1 := gtrans hAg g1
  have hne : w.heap.size ≠ w.heap.size + 1 := by omega
  have hne' : w.heap.size + 1 ≠ w.heap.size := by omega
  clear hX0 hR0 hAg q1 hsz
  by_cases e0 : r = 0
  · subst e0
    have p2 := Lib.hid (fun C t => (among_alloc [-1, 0, 1000, 1001] (by decide) (by decide) C t b B (n + 1) v Z w1 hB (by omega) hZ s1 u1))
    have G1 := Lib.hid g1
    clear s1 u1 g1
    go_wp2_with fail
    refine (p2.out _ _ rfl).mono ?_
    rintro e w2 ⟨r2, rfl, hr, s2, u2, g2⟩
    have hb : -1 ≤ r2 ∧ r2 ≤ 40000 := by
      simp only [List.mem_cons, List.mem_nil_iff, or_false] at hr
      omega
    have hX3 := (g2.block w.heap.size zX (by intro h; injection h; omega)).trans hX1
    have hR3 := (g2.block (w.heap.size + 1) zR (by intro h; injection h; omega)).trans hR1
    have q4 := Lib.hid (And.intro s2 (And.intro u2 (gtrans G1.out g2)))
    have cX0 : w2.cell? ⟨w.heap.size, 0, none⟩ = some (.string s) := cellB hX3 0 _ rfl
    have fX0 := freeB hX3 0
    have cX1 : w2.cell? ⟨w.heap.size, 1, none⟩ = some (.int .i64 x) := cellB hX3 1 _ rfl
    have fX1 := freeB hX3 1
    have cX2 : w2.cell? ⟨w.heap.size, 2, none⟩ = some (.int .i64 y) := cellB hX3 2 _ rfl
    have fX2 := freeB hX3 2
    have cX3 : w2.cell? ⟨w.heap.size, 3, none⟩ = some (.int .i64 z) := cellB hX3 3 _ rfl
    have fX3 := freeB hX3 3
    have cR0 : w2.cell? ⟨w.heap.size + 1, 0, none⟩ = some (.string ByteArray.empty) := cellB hR3 0 _ rfl
    have fR0 := freeB hR3 0
    have cR1 : w2.cell? ⟨w.heap.size + 1, 1, none⟩ = some (.int .i64 0) := cellB hR3 1 _ rfl
    have fR1 := freeB hR3 1
    have cR2 : w2.cell? ⟨w.heap.size + 1, 2, none⟩ = some (.int .i64 0) := cellB hR3 2 _ rfl
    have fR2 := freeB hR3 2
    have cR3 : w2.cell? ⟨w.heap.size + 1, 3, none⟩ = some (.int .i64 0) := cellB hR3 3 _ rfl
    have fR3 := freeB hR3 3
    clear s2 u2 g2 p2 hX3 hR3 hX1 hR1 G1 hr
    go_wp2
    refine bodyPost_ret (v := .agg #[.string s, .int .i64 r2, .int .i64 y, .int .i64 z]) (by simp [results, Tryd.results16, go_sem, cX0, cX1, cX2, cX3, cR0, cR1, cR2, cR3, hne, hne']) rfl ⟨_, _, _, n + 1 + 1, rfl, by omega, by omega, by omega, by omega, ?_, ?_, ?_⟩
    · repeat (first | (with_reducible exact q4.out.1) | with_reducible refine src_set1 ?_ _ (by first | (simp; done) | (simp; omega) | omega) _ | with_reducible refine src_alloc ?_ _)
    · repeat (first | (with_reducible exact q4.out.2.1) | with_reducible refine u8_set1 ?_ _ (by first | (simp; done) | (simp; omega) | omega) _ | with_reducible refine u8_alloc ?_ _)
    · repeat (first | (with_reducible exact q4.out.2.2) | with_reducible refine grown_new ?_ _ (by first | (simp; done) | (simp; omega) | omega) _ | with_reducible refine grown_alloc ?_ _)
  have d0 : (r == 0) = false := beq_eq_false_iff_ne.2 e0
  by_cases e1 : r = 1
  · subst e1
    have p2 := Lib.hid (fun C t => (among_alloc [9, 10, 1000, 1001] (by decide) (by decide) C t b B (n + 1) v Z w1 hB (by omega) hZ s1 u1))
    have G1 := Lib.hid g1
    clear s1 u1 g1
    go_wp2_with fail
    refine (p2.out _ _ rfl).mono ?_
    rintro e w2 ⟨r2, rfl, hr, s2, u2, g2⟩
    have hb : -1 ≤ r2 ∧ r2 ≤ 40000 := by
      simp only [List.mem_cons, List.mem_nil_iff, or_false] at hr
      omega
    have hX3 := (g2.block w.heap.size zX (by intro h; injection h; omega)).trans hX1
    have hR3 := (g2.block (w.heap.size + 1) zR (by intro h; injection h; omega)).trans hR1
    have q4 := Lib.hid (And.intro s2 (And.intro u2 (gtrans G1.out g2)))
    have cX0 : w2.cell? ⟨w.heap.size, 0, none⟩ = some (.string s) := cellB hX3 0 _ rfl
    have fX0 := freeB hX3 0
    have cX1 : w2.cell? ⟨w.heap.size, 1, none⟩ = some (.int .i64 x) := cellB hX3 1 _ rfl
    have fX1 := freeB hX3 1
    have cX2 : w2.cell? ⟨w.heap.size, 2, none⟩ = some (.int .i64 y) := cellB hX3 2 _ rfl
    have fX2 := freeB hX3 2
    have cX3 : w2.cell? ⟨w.heap.size, 3, none⟩ = some (.int .i64 z) := cellB hX3 3 _ rfl
    have fX3 := freeB hX3 3
    have cR0 : w2.cell? ⟨w.heap.size + 1, 0, none⟩ = some (.string ByteArray.empty) := cellB hR3 0 _ rfl
    have fR0 := freeB hR3 0
    have cR1 : w2.cell? ⟨w.heap.size + 1, 1, none⟩ = some (.int .i64 0) := cellB hR3 1 _ rfl
    have fR1 := freeB hR3 1
    have cR2 : w2.cell? ⟨w.heap.size + 1, 2, none⟩ = some (.int .i64 0) := cellB hR3 2 _ rfl
    have fR2 := freeB hR3 2
    have cR3 : w2.cell? ⟨w.heap.size + 1, 3, none⟩ = some (.int .i64 0) := cellB hR3 3 _ rfl
    have fR3 := freeB hR3 3
    clear s2 u2 g2 p2 hX3 hR3 hX1 hR1 G1 hr
    go_wp2
    refine bodyPost_ret (v := .agg #[.string s, .int .i64 x, .int .i64 r2, .int .i64 z]) (by simp [results, Tryd.results16, go_sem, cX0, cX1, cX2, cX3, cR0, cR1, cR2, cR3, hne, hne']) rfl ⟨_, _, _, n + 1 + 1, rfl, by omega, by omega, by omega, by omega, ?_, ?_, ?_⟩
    · repeat (first | (with_reducible exact q4.out.1) | with_reducible refine src_set1 ?_ _ (by first | (simp; done) | (simp; omega) | omega) _ | with_reducible refine src_alloc ?_ _)
    · repeat (first | (with_reducible exact q4.out.2.1) | with_reducible refine u8_set1 ?_ _ (by first | (simp; done) | (simp; omega) | omega) _ | with_reducible refine u8_alloc ?_ _)
    · repeat (first | (with_reducible exact q4.out.2.2) | with_reducible refine grown_new ?_ _ (by first | (simp; done) | (simp; omega) | omega) _ | with_reducible refine grown_alloc ?_ _)
  have d1 : (r == 1) = false := beq_eq_false_iff_ne.2 e1
  by_cases e2 : r = 2
  · subst e2
    have p2 := Lib.hid (fun C t => (among_alloc [-1, 0, 36524, 36525] (by decide) (by decide) C t b B (n + 1) v Z w1 hB (by omega) hZ s1 u1))
    have G1 := Lib.hid g1
    clear s1 u1 g1
    go_wp2_with fail
    refine (p2.out _ _ rfl).mono ?_
    rintro e w2 ⟨r2, rfl, hr, s2, u2, g2⟩
    have hb : -1 ≤ r2 ∧ r2 ≤ 40000 := by
      simp only [List.mem_cons, List.mem_nil_iff, or_false] at hr
      omega
    have hX3 := (g2.block w.heap.size zX (by intro h; injection h; omega)).trans hX1
    have hR3 := (g2.block (w.heap.size + 1) zR (by intro h; injection h; omega)).trans hR1
    have q4 := Lib.hid (And.intro s2 (And.intro u2 (gtrans G1.out g2)))
    have cX0 : w2.cell? ⟨w.heap.size, 0, none⟩ = some (.string s) := cellB hX3 0 _ rfl
    have fX0 := freeB hX3 0
    have cX1 : w2.cell? ⟨w.heap.size, 1, none⟩ = some (.int .i64 x) := cellB hX3 1 _ rfl
    have fX1 := freeB hX3 1
    have cX2 : w2.cell? ⟨w.heap.size, 2, none⟩ = some (.int .i64 y) := cellB hX3 2 _ rfl
    have fX2 := freeB hX3 2
    have cX3 : w2.cell? ⟨w.heap.size, 3, none⟩ = some (.int .i64 z) := cellB hX3 3 _ rfl
    have fX3 := freeB hX3 3
    have cR0 : w2.cell? ⟨w.heap.size + 1, 0, none⟩ = some (.string ByteArray.empty) := cellB hR3 0 _ rfl
    have fR0 := freeB hR3 0
    have cR1 : w2.cell? ⟨w.heap.size + 1, 1, none⟩ = some (.int .i64 0) := cellB hR3 1 _ rfl
    have fR1 := freeB hR3 1
    have cR2 : w2.cell? ⟨w.heap.size + 1, 2, none⟩ = some (.int .i64 0) := cellB hR3 2 _ rfl
    have fR2 := freeB hR3 2
    have cR3 : w2.cell? ⟨w.heap.size + 1, 3, none⟩ = some (.int .i64 0) := cellB hR3 3 _ rfl
    have fR3 := freeB hR3 3
    clear s2 u2 g2 p2 hX3 hR3 hX1 hR1 G1 hr
    go_wp2
    refine bodyPost_ret (v := .agg #[.string s, .int .i64 x, .int .i64 y, .int .i64 r2]) (by simp [results, Tryd.results16, go_sem, cX0, cX1, cX2, cX3, cR0, cR1, cR2, cR3, hne, hne']) rfl ⟨_, _, _, n + 1 + 1, rfl, by omega, by omega, by omega, by omega, ?_, ?_, ?_⟩
    · repeat (first | (with_reducible exact q4.out.1) | with_reducible refine src_set1 ?_ _ (by first | (simp; done) | (simp; omega) | omega) _ | with_reducible refine src_alloc ?_ _)
    · repeat (first | (with_reducible exact q4.out.2.1) | with_reducible refine u8_set1 ?_ _ (by first | (simp; done) | (simp; omega) | omega) _ | with_reducible refine u8_alloc ?_ _)
    · repeat (first | (with_reducible exact q4.out.2.2) | with_reducible refine grown_new ?_ _ (by first | (simp; done) | (simp; omega) | omega) _ | with_reducible refine grown_alloc ?_ _)
  have d2 : (r == 2) = false := beq_eq_false_iff_ne.2 e2
  have q4 := Lib.hid (And.intro s1 (And.intro u1 g1))
  have hX3 := hX1
  have hR3 := hR1
  have cX0 : w1.cell? ⟨w.heap.size, 0, none⟩ = some (.string s) := cellB hX3 0 _ rfl
  have fX0 := freeB hX3 0
  have cX1 : w1.cell? ⟨w.heap.size, 1, none⟩ = some (.int .i64 x) := cellB hX3 1 _ rfl
  have fX1 := freeB hX3 1
  have cX2 : w1.cell? ⟨w.heap.size, 2, none⟩ = some (.int .i64 y) := cellB hX3 2 _ rfl
  have fX2 := freeB hX3 2
  have cX3 : w1.cell? ⟨w.heap.size, 3, none⟩ = some (.int .i64 z) := cellB hX3 3 _ rfl
  have fX3 := freeB hX3 3
  have cR0 : w1.cell? ⟨w.heap.size + 1, 0, none⟩ = some (.string ByteArray.empty) := cellB hR3 0 _ rfl
  have fR0 := freeB hR3 0
  have cR1 : w1.cell? ⟨w.heap.size + 1, 1, none⟩ = some (.int .i64 0) := cellB hR3 1 _ rfl
  have fR1 := freeB hR3 1
  have cR2 : w1.cell? ⟨w.heap.size + 1, 2, none⟩ = some (.int .i64 0) := cellB hR3 2 _ rfl
  have fR2 := freeB hR3 2
  have cR3 : w1.cell? ⟨w.heap.size + 1, 3, none⟩ = some (.int .i64 0) := cellB hR3 3 _ rfl
  have fR3 := freeB hR3 3
  clear s1 u1 g1 hX3 hR3 hX1 hR1 e0 e1 e2
  go_wp2
  refine bodyPost_ret (v := .agg #[.string s, .int .i64 x, .int .i64 y, .int .i64 z]) (by simp [results, Tryd.results16, go_sem, cX0, cX1, cX2, cX3, cR0, cR1, cR2, cR3, hne, hne']) rfl ⟨_, _, _, n + 1, rfl, by omega, by omega, by omega, by omega, ?_, ?_, ?_⟩
  · repeat (first | (with_reducible exact q4.out.1) | with_reducible refine src_set1 ?_ _ (by first | (simp; done) | (simp; omega) | omega) _ | with_reducible refine src_alloc ?_ _)
  · repeat (first | (with_reducible exact q4.out.2.1) | with_reducible refine u8_set1 ?_ _ (by first | (simp; done) | (simp; omega) | omega) _ | with_reducible refine u8_alloc ?_ _)
  · repeat (first | (with_reducible exact q4.out.2.2) | with_reducible refine grown_new ?_ _ (by first | (simp; done) | (simp; omega) | omega) _ | with_reducible refine grown_alloc ?_ _)
end Go.Proofs.YtemccejlophmkaaDoor
