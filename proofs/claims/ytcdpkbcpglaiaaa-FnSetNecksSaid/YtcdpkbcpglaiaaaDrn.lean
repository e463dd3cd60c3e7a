/-
  The model's drawn necks: what is known of each draw is its bounds.
-/
import Derived.Test.YtcdpkbcpglaiaaaDraw
import Derived.Test.YtcdpkbcpglaiaaaNckIn
import Derived.Deep.RegionWith
namespace Go.Proofs.Ytcdpkbcpglaiaaa
open Go.ChangeShapes Go.WideShapes Go.ChangeAt Go.RowKit Go.Deep
set_option linter.unusedVariables false
set_option maxRecDepth 1000000
set_option linter.unusedSimpArgs false
theorem grown_set (w : World) (a : Addr) (u : Value) : w.grownBy (w.setCell a u) (some a.block) :=
  ⟨rfl, rfl, rfl, by simp, fun k _ hk => Below.heap_setCell _ _ _ k (fun e => hk (by rw [e]))⟩
theorem lt_some {w : World} {b : Nat} {o : Obj} (h : w.heap[b]? = some o) : b < w.heap.size := (Array.getElem?_eq_some_iff.1 h).1
theorem grown_new {w w1 : World} {r : Option Nat} (h : w.grownBy w1 r) (a : Addr) (ha : w.heap.size ≤ a.block) (u : Value) : w.grownBy (w1.setCell a u) r :=
  ⟨h.os, h.tape, h.output, by have := h.size; simpa using this, fun k hk hr => (Below.heap_setCell _ _ _ k (by omega)).trans (h.block k hk hr)⟩
theorem grown_alloc {w w1 : World} {r : Option Nat} (h : w.grownBy w1 r) (o : Obj) : w.grownBy (w1.alloc o) r := gtrans h (below_grown' ((Below.refl _ _).alloc (Nat.le_refl _) _) r)
theorem grown_drew {w w1 : World} {r : Option Nat} (h : w.grownBy w1 r) (n : Nat) : w.grownBy (w1.drewN n) r := ⟨h.os, h.tape, h.output, h.size, h.block⟩
theorem src_set1 {w : World} {b n : Nat} {v : Value} (h : SrcAt w b v n) (a : Addr) (ha : a.block ≠ b) (u : Value) : SrcAt (w.setCell a u) b v n := by
  obtain ⟨h0, c0, c1, ⟨s, c2⟩, z1, z2⟩ := h
  have e : (w.setCell a u).heap[b]? = w.heap[b]? := Below.heap_setCell _ _ _ b (fun h => ha h.symm)
  refine ⟨by simpa using h0, (cell_block e).trans c0, (cell_block e).trans c1, ⟨s, (cell_block e).trans c2⟩, ?_, ?_⟩
  · rw [← z1]; simp only [World.frozen?, e]
  · rw [← z2]; simp only [World.frozen?, e]
theorem src_alloc {w : World} {b n : Nat} {v : Value} (h : SrcAt w b v n) (o : Obj) : SrcAt (w.alloc o) b v n := h.below ((Below.refl _ _).alloc (Nat.le_refl _) _)
theorem u8_set1 {B : Nat} {w : World} {v : Value} {Z : List Int} (h : U8Old B w v Z) (a : Addr) (ha : B ≤ a.block) (u : Value) : U8Old B (w.setCell a u) v Z := h.other (grown_set w a u) ha
theorem u8_alloc {B : Nat} {w : World} {v : Value} {Z : List Int} (h : U8Old B w v Z) (o : Obj) : U8Old B (w.alloc o) v Z := h.below ((Below.refl _ _).alloc (Nat.le_refl _) _)
theorem set_at {w : World} {b : Nat} {cs : Array Value} {t : TypeId} (h : w.heap[b]? = some (.cells cs t (0, 0))) (i : Nat) (v : Value) (cs' : Array Value) (hc : cs.setIfInBounds i v = cs') : (w.setCell ⟨b, i, none⟩ v).heap[b]? = some (.cells cs' t (0, 0)) := by
  obtain ⟨hlt, hk⟩ := Array.getElem?_eq_some_iff.1 h
  show (w.heap.modify b _)[b]? = _
  rw [Array.getElem?_eq_getElem (by rw [Array.size_modify]; exact hlt), Array.getElem_modify_self, hk, ← hc]
  simp [Array.setIfInBounds]
/-- what a drawn neck leaves -/
def NckRet (b B : Nat) (v : Value) (Z : List Int) (n : Nat) (w : World) (e : Ending) (w' : World) : Prop :=
  ∃ (x1 x2 x3 x4 : Int) (m : Nat), e = .returned (.agg #[.int .i64 x1, .int .i64 x2, .int .i64 x3, .int .i64 x4]) ∧ (-1 ≤ x1 ∧ x1 ≤ 20000) ∧ (-1 ≤ x2 ∧ x2 ≤ 20000) ∧ (-1 ≤ x3 ∧ x3 ≤ 20000) ∧ (-1 ≤ x4 ∧ x4 ≤ 20000) ∧ m ≤ n ∧ SrcAt w' b v m ∧ U8Old B w' v Z ∧ w.grownBy w' (some b)
set_option maxHeartbeats 3200000 in
theorem l10DrawOk_any (b B n : Nat) (v : Value) (Z : List Int) (w : World) (hB : B ≤ b) (hn : n ≤ 50) (hZ : Z.length ≤ 1048576) (hs : SrcAt w b v n) (hu : U8Old B w v Z) :
    Calls Try.prog 32 #[.pointer (some ⟨b, 0, none⟩)] w (NckRet b B v Z (n + 4) w) := by
  have hA : Below w.heap.size w (w.alloc (.cells #[.int .i64 0, .int .i64 0, .int .i64 0, .int .i64 0] 26)) := (Below.refl _ _).alloc (Nat.le_refl _) _
  have q1 := Lib.hid (pickS_any 40 (by decide) (by decide) b B n v Z (w.alloc (.cells #[.int .i64 0, .int .i64 0, .int .i64 0, .int .i64 0] 26)) hB (by omega) hZ (hs.below hA) (hu.below hA))
  have q2 := Lib.hid (fun l (h1 : 1 < l) (h2 : l ≤ 200) n W (hn : n ≤ 90) => pickS_any l h1 h2 b B n v Z W hB hn hZ)
  have hbw : b < w.heap.size := hs.1
  have hR0 := heap_alloc_new w (.cells #[.int .i64 0, .int .i64 0, .int .i64 0, .int .i64 0] 26)
  clear hs hu hA
  go_enter Try.func32, Try.ntmps32
  go_wp2_with fail
  refine q1.out.mono ?_
  rintro e w1 ⟨r1, rfl, a1, b1, s1, u1, g1⟩
  have p2 := Lib.hid (q2.out 40 (by decide) (by decide) (n + 1) w1 (by omega) s1 u1)
  have G1 := Lib.hid (gtrans (below_grown' ((Below.refl _ _).alloc (Nat.le_refl _) _) _) g1)
  have hR1 := (g1.block w.heap.size (by simp) (by intro h; injection h; omega)).trans hR0
  have z1 : w.heap.size < w1.heap.size := lt_some hR1
  clear s1 u1 g1 q1 hR0
  go_wp2_with fail
  refine p2.out.mono ?_
  rintro e w2 ⟨r2, rfl, a2, b2, s2, u2, g2⟩
  have G2 := Lib.hid (grown_alloc (gtrans G1.out g2) (.cells #[.int .i64 (1200 + 5 * r1), .int .i64 (1850 + 5 * r2), .int .i64 0, .int .i64 0] 26))
  have hR2 := (g2.block w.heap.size z1 (by intro h; injection h; omega)).trans hR1
  have z2 : w.heap.size < w2.heap.size := lt_some hR2
  have hX3 := heap_alloc_new w2 (.cells #[.int .i64 (1200 + 5 * r1), .int .i64 (1850 + 5 * r2), .int .i64 0, .int .i64 0] 26)
  have hR3 := (Below.heap_alloc w2 (.cells #[.int .i64 (1200 + 5 * r1), .int .i64 (1850 + 5 * r2), .int .i64 0, .int .i64 0] 26) _ z2).trans hR2
  have s3 := src_alloc s2 (.cells #[.int .i64 (1200 + 5 * r1), .int .i64 (1850 + 5 * r2), .int .i64 0, .int .i64 0] 26)
  have u3 := u8_alloc u2 (.cells #[.int .i64 (1200 + 5 * r1), .int .i64 (1850 + 5 * r2), .int .i64 0, .int .i64 0] 26)
  have zX : w2.heap.size < (w2.alloc (.cells #[.int .i64 (1200 + 5 * r1), .int .i64 (1850 + 5 * r2), .int .i64 0, .int .i64 0] 26)).heap.size := by simp
  clear s2 u2 g2 p2 G1 hR1 hR2
  go_wp2_with fail
  generalize w2.alloc (.cells #[.int .i64 (1200 + 5 * r1), .int .i64 (1850 + 5 * r2), .int .i64 0, .int .i64 0] 26) = W3 at hX3 hR3 s3 u3 zX G2 ⊢
  refine (q2.out 50 (by decide) (by decide) (n + 1 + 1) W3 (by omega) s3 u3).mono ?_
  rintro e w4 ⟨r3, rfl, a3, b3, s4, u4, g4⟩
  have hX4 := (g4.block w2.heap.size zX (by intro h; injection h; omega)).trans hX3
  have hR4 := (g4.block w.heap.size (by omega) (by intro h; injection h; omega)).trans hR3
  have hne : w.heap.size ≠ w2.heap.size := by omega
  have hne' : w2.heap.size ≠ w.heap.size := by omega
  have hX5 := set_at hX4 2 (.int .i64 (40 + r3)) _ rfl
  have hR5 := (Below.heap_setCell w4 ⟨w2.heap.size, 2, none⟩ (.int .i64 (40 + r3)) _ hne).trans hR4
  have s5 := src_set1 s4 ⟨w2.heap.size, 2, none⟩ (show w2.heap.size ≠ b by omega) (.int .i64 (40 + r3))
  have u5 := u8_set1 u4 ⟨w2.heap.size, 2, none⟩ (show B ≤ w2.heap.size by omega) (.int .i64 (40 + r3))
  have G5 := Lib.hid (grown_new (gtrans G2.out g4) ⟨w2.heap.size, 2, none⟩ (show w.heap.size ≤ w2.heap.size by omega) (.int .i64 (40 + r3)))
  have cX2 := cellB hX4 2 _ rfl
  have fX2 := freeB hX4 2
  have zX5 := lt_some hX5
  clear hX3 hR3 s3 u3 s4 u4 g4 G2 hX4 hR4
  go_wp2_with fail
  generalize w4.setCell ⟨w2.heap.size, 2, none⟩ (.int .i64 (40 + r3)) = W5 at hX5 hR5 s5 u5 G5 zX5 ⊢
  clear cX2 fX2
  refine (q2.out 90 (by decide) (by decide) (n + 1 + 1 + 1) W5 (by omega) s5 u5).mono ?_
  rintro e w6 ⟨r4, rfl, a4, b4, s6, u6, g6⟩
  have hX6 := (g6.block w2.heap.size zX5 (by intro h; injection h; omega)).trans hX5
  have hR6 := (g6.block w.heap.size (by omega) (by intro h; injection h; omega)).trans hR5
  have q4 := Lib.hid (And.intro s6 (And.intro u6 (gtrans G5.out g6)))
  have cX0 := cellB hX6 0 _ rfl
  have fX0 := freeB hX6 0
  have cX1 := cellB hX6 1 _ rfl
  have fX1 := freeB hX6 1
  have cX2 := cellB hX6 2 _ rfl
  have fX2 := freeB hX6 2
  have cX3 := cellB hX6 3 _ rfl
  have fX3 := freeB hX6 3
  have cR0 := cellB hR6 0 _ rfl
  have fR0 := freeB hR6 0
  have cR1 := cellB hR6 1 _ rfl
  have fR1 := freeB hR6 1
  have cR2 := cellB hR6 2 _ rfl
  have fR2 := freeB hR6 2
  have cR3 := cellB hR6 3 _ rfl
  have fR3 := freeB hR6 3
  clear s6 u6 g6 hX5 hR5 s5 u5 G5 q2 hX6 hR6
  go_wp2
  refine bodyPost_ret (v := .agg #[.int .i64 (1200 + 5 * r1), .int .i64 (1850 + 5 * r2), .int .i64 (40 + r3), .int .i64 (60 + r4)]) (by simp [results, Try.results32, go_sem, cX0, cX1, cX2, cX3, cR0, cR1, cR2, cR3, hne, hne']) rfl ⟨_, _, _, _, n + 1 + 1 + 1 + 1, rfl, by omega, by omega, by omega, by omega, by omega, ?_, ?_, ?_⟩
  · repeat (first | (with_reducible exact q4.out.1) | with_reducible refine src_set1 ?_ _ (by first | (simp; done) | (simp; omega) | omega) _ | with_reducible refine src_alloc ?_ _)
  · repeat (first | (with_reducible exact q4.out.2.1) | with_reducible refine u8_set1 ?_ _ (by first | (simp; done) | (simp; omega) | omega) _ | with_reducible refine u8_alloc ?_ _)
  · repeat (first | (with_reducible exact q4.out.2.2) | with_reducible refine grown_new ?_ _ (by first | (simp; done) | (simp; omega) | omega) _ | with_reducible refine grown_alloc ?_ _)
set_option maxHeartbeats 3200000 in
theorem l10Draw_any (b B n : Nat) (v : Value) (Z : List Int) (w : World) (hB : B ≤ b) (hn : n ≤ 50) (hZ : Z.length ≤ 1048576) (hs : SrcAt w b v n) (hu : U8Old B w v Z) :
    Calls Try.prog 17 #[.pointer (some ⟨b, 0, none⟩)] w (NckRet b B v Z (n + 6) w) := by
  have hA : Below w.heap.size w (w.alloc (.cells #[.int .i64 0, .int .i64 0, .int .i64 0, .int .i64 0] 26)) := (Below.refl _ _).alloc (Nat.le_refl _) _
  have q1 := Lib.hid (l10DrawOk_any b B n v Z (w.alloc (.cells #[.int .i64 0, .int .i64 0, .int .i64 0, .int .i64 0] 26)) hB hn hZ (hs.below hA) (hu.below hA))
  have q2 := Lib.hid (fun n W (hn : n ≤ 90) => pickS_any 20 (by decide) (by decide) b B n v Z W hB hn hZ)
  have hbw : b < w.heap.size := hs.1
  have hR0 := heap_alloc_new w (.cells #[.int .i64 0, .int .i64 0, .int .i64 0, .int .i64 0] 26)
  clear hs hu hA
  go_enter Try.func17, Try.ntmps17
  go_wp2_with fail
  refine q1.out.mono ?_
  rintro e w1 ⟨x1, x2, x3, x4, m1, rfl, hx1, hx2, hx3, hx4, hm1, s1, u1, g1⟩
  have hR1 := (g1.block w.heap.size (by simp) (by intro h; injection h; omega)).trans hR0
  have z1 : w.heap.size < w1.heap.size := lt_some hR1
  have p2 := Lib.hid (q2.out m1 (w1.alloc (.cells #[.int .i64 x1, .int .i64 x2, .int .i64 x3, .int .i64 x4] 26)) (by omega) (src_alloc s1 _) (u8_alloc u1 _))
  have G1 := Lib.hid (grown_alloc (gtrans (below_grown' ((Below.refl _ _).alloc (Nat.le_refl _) _) _) g1) (.cells #[.int .i64 x1, .int .i64 x2, .int .i64 x3, .int .i64 x4] 26))
  have hX1 := heap_alloc_new w1 (.cells #[.int .i64 x1, .int .i64 x2, .int .i64 x3, .int .i64 x4] 26)
  have hR1' := (Below.heap_alloc w1 (.cells #[.int .i64 x1, .int .i64 x2, .int .i64 x3, .int .i64 x4] 26) _ z1).trans hR1
  clear s1 u1 g1 q1 hR0 hR1 q2
  go_wp2_with fail
  refine p2.out.mono ?_
  rintro e w2 ⟨r, rfl, a1, b1, s2, u2, g2⟩
  have hX2 := (g2.block w1.heap.size (by simp) (by intro h; injection h; omega)).trans hX1
  have hR2 := (g2.block w.heap.size (by simp; omega) (by intro h; injection h; omega)).trans hR1'
  have g2 := gtrans G1.out g2
  have zX := lt_some hX2
  have zR := lt_some hR2
  have hne : w.heap.size ≠ w1.heap.size := by omega
  have hne' : w1.heap.size ≠ w.heap.size := by omega
  clear hX1 hR1' p2 G1
  by_cases e0 : r = 0
  · subst e0
    have p2 := Lib.hid (fun C t => (among_alloc [99, 100, 10000, 10001] (by decide) (by decide) C t b B (m1 + 1) v Z w2 hB (by omega) hZ s2 u2))
    have G2 := Lib.hid g2
    clear s2 u2 g2
    go_wp2_with fail
    refine (p2.out _ _ rfl).mono ?_
    rintro e w3 ⟨r2, rfl, hr, s3, u3, g3⟩
    have hb : -1 ≤ r2 ∧ r2 ≤ 20000 := by
      simp only [List.mem_cons, List.mem_nil_iff, or_false] at hr
      omega
    have hX3 := (g3.block w1.heap.size zX (by intro h; injection h; omega)).trans hX2
    have hR3 := (g3.block w.heap.size zR (by intro h; injection h; omega)).trans hR2
    have q4 := Lib.hid (And.intro s3 (And.intro u3 (gtrans G2.out g3)))
    have cX0 := cellB hX3 0 _ rfl
    have fX0 := freeB hX3 0
    have cX1 := cellB hX3 1 _ rfl
    have fX1 := freeB hX3 1
    have cX2 := cellB hX3 2 _ rfl
    have fX2 := freeB hX3 2
    have cX3 := cellB hX3 3 _ rfl
    have fX3 := freeB hX3 3
    have cR0 := cellB hR3 0 _ rfl
    have fR0 := freeB hR3 0
    have cR1 := cellB hR3 1 _ rfl
    have fR1 := freeB hR3 1
    have cR2 := cellB hR3 2 _ rfl
    have fR2 := freeB hR3 2
    have cR3 := cellB hR3 3 _ rfl
    have fR3 := freeB hR3 3
    clear s3 u3 g3 p2 hX3 hR3 hX2 hR2 G2 hr
    go_wp2
    refine bodyPost_ret (v := .agg #[.int .i64 r2, .int .i64 x2, .int .i64 x3, .int .i64 x4]) (by simp [results, Try.results17, go_sem, cX0, cX1, cX2, cX3, cR0, cR1, cR2, cR3, hne, hne']) rfl ⟨_, _, _, _, m1 + 1 + 1, rfl, by omega, by omega, by omega, by omega, by omega, ?_, ?_, ?_⟩
    · repeat (first | (with_reducible exact q4.out.1) | with_reducible refine src_set1 ?_ _ (by first | (simp; done) | (simp; omega) | omega) _ | with_reducible refine src_alloc ?_ _)
    · repeat (first | (with_reducible exact q4.out.2.1) | with_reducible refine u8_set1 ?_ _ (by first | (simp; done) | (simp; omega) | omega) _ | with_reducible refine u8_alloc ?_ _)
    · repeat (first | (with_reducible exact q4.out.2.2) | with_reducible refine grown_new ?_ _ (by first | (simp; done) | (simp; omega) | omega) _ | with_reducible refine grown_alloc ?_ _)
  have d0 : (r == 0) = false := beq_eq_false_iff_ne.2 e0
  by_cases e1 : r = 1
  · subst e1
    have p2 := Lib.hid (fun C t => (among_alloc [99, 100, 10000, 10001] (by decide) (by decide) C t b B (m1 + 1) v Z w2 hB (by omega) hZ s2 u2))
    have G2 := Lib.hid g2
    clear s2 u2 g2
    go_wp2_with fail
    refine (p2.out _ _ rfl).mono ?_
    rintro e w3 ⟨r2, rfl, hr, s3, u3, g3⟩
    have hb : -1 ≤ r2 ∧ r2 ≤ 20000 := by
      simp only [List.mem_cons, List.mem_nil_iff, or_false] at hr
      omega
    have hX3 := (g3.block w1.heap.size zX (by intro h; injection h; omega)).trans hX2
    have hR3 := (g3.block w.heap.size zR (by intro h; injection h; omega)).trans hR2
    have q4 := Lib.hid (And.intro s3 (And.intro u3 (gtrans G2.out g3)))
    have cX0 := cellB hX3 0 _ rfl
    have fX0 := freeB hX3 0
    have cX1 := cellB hX3 1 _ rfl
    have fX1 := freeB hX3 1
    have cX2 := cellB hX3 2 _ rfl
    have fX2 := freeB hX3 2
    have cX3 := cellB hX3 3 _ rfl
    have fX3 := freeB hX3 3
    have cR0 := cellB hR3 0 _ rfl
    have fR0 := freeB hR3 0
    have cR1 := cellB hR3 1 _ rfl
    have fR1 := freeB hR3 1
    have cR2 := cellB hR3 2 _ rfl
    have fR2 := freeB hR3 2
    have cR3 := cellB hR3 3 _ rfl
    have fR3 := freeB hR3 3
    clear s3 u3 g3 p2 hX3 hR3 hX2 hR2 G2 hr
    go_wp2
    refine bodyPost_ret (v := .agg #[.int .i64 x1, .int .i64 r2, .int .i64 x3, .int .i64 x4]) (by simp [results, Try.results17, go_sem, cX0, cX1, cX2, cX3, cR0, cR1, cR2, cR3, hne, hne']) rfl ⟨_, _, _, _, m1 + 1 + 1, rfl, by omega, by omega, by omega, by omega, by omega, ?_, ?_, ?_⟩
    · repeat (first | (with_reducible exact q4.out.1) | with_reducible refine src_set1 ?_ _ (by first | (simp; done) | (simp; omega) | omega) _ | with_reducible refine src_alloc ?_ _)
    · repeat (first | (with_reducible exact q4.out.2.1) | with_reducible refine u8_set1 ?_ _ (by first | (simp; done) | (simp; omega) | omega) _ | with_reducible refine u8_alloc ?_ _)
    · repeat (first | (with_reducible exact q4.out.2.2) | with_reducible refine grown_new ?_ _ (by first | (simp; done) | (simp; omega) | omega) _ | with_reducible refine grown_alloc ?_ _)
  have d1 : (r == 1) = false := beq_eq_false_iff_ne.2 e1
  by_cases e2 : r = 2
  · subst e2
    have p2 := Lib.hid (fun C t => (among_alloc [-1, 0, 500, 501] (by decide) (by decide) C t b B (m1 + 1) v Z w2 hB (by omega) hZ s2 u2))
    have G2 := Lib.hid g2
    clear s2 u2 g2
    go_wp2_with fail
    refine (p2.out _ _ rfl).mono ?_
    rintro e w3 ⟨r2, rfl, hr, s3, u3, g3⟩
    have hb : -1 ≤ r2 ∧ r2 ≤ 20000 := by
      simp only [List.mem_cons, List.mem_nil_iff, or_false] at hr
      omega
    have hX3 := (g3.block w1.heap.size zX (by intro h; injection h; omega)).trans hX2
    have hR3 := (g3.block w.heap.size zR (by intro h; injection h; omega)).trans hR2
    have q4 := Lib.hid (And.intro s3 (And.intro u3 (gtrans G2.out g3)))
    have cX0 := cellB hX3 0 _ rfl
    have fX0 := freeB hX3 0
    have cX1 := cellB hX3 1 _ rfl
    have fX1 := freeB hX3 1
    have cX2 := cellB hX3 2 _ rfl
    have fX2 := freeB hX3 2
    have cX3 := cellB hX3 3 _ rfl
    have fX3 := freeB hX3 3
    have cR0 := cellB hR3 0 _ rfl
    have fR0 := freeB hR3 0
    have cR1 := cellB hR3 1 _ rfl
    have fR1 := freeB hR3 1
    have cR2 := cellB hR3 2 _ rfl
    have fR2 := freeB hR3 2
    have cR3 := cellB hR3 3 _ rfl
    have fR3 := freeB hR3 3
    clear s3 u3 g3 p2 hX3 hR3 hX2 hR2 G2 hr
    go_wp2
    refine bodyPost_ret (v := .agg #[.int .i64 x1, .int .i64 x2, .int .i64 r2, .int .i64 x4]) (by simp [results, Try.results17, go_sem, cX0, cX1, cX2, cX3, cR0, cR1, cR2, cR3, hne, hne']) rfl ⟨_, _, _, _, m1 + 1 + 1, rfl, by omega, by omega, by omega, by omega, by omega, ?_, ?_, ?_⟩
    · repeat (first | (with_reducible exact q4.out.1) | with_reducible refine src_set1 ?_ _ (by first | (simp; done) | (simp; omega) | omega) _ | with_reducible refine src_alloc ?_ _)
    · repeat (first | (with_reducible exact q4.out.2.1) | with_reducible refine u8_set1 ?_ _ (by first | (simp; done) | (simp; omega) | omega) _ | with_reducible refine u8_alloc ?_ _)
    · repeat (first | (with_reducible exact q4.out.2.2) | with_reducible refine grown_new ?_ _ (by first | (simp; done) | (simp; omega) | omega) _ | with_reducible refine grown_alloc ?_ _)
  have d2 : (r == 2) = false := beq_eq_false_iff_ne.2 e2
  by_cases e3 : r = 3
  · subst e3
    have p2 := Lib.hid (fun C t => (among_alloc [-1, 0, 300, 301] (by decide) (by decide) C t b B (m1 + 1) v Z w2 hB (by omega) hZ s2 u2))
    have G2 := Lib.hid g2
    clear s2 u2 g2
    go_wp2_with fail
    refine (p2.out _ _ rfl).mono ?_
    rintro e w3 ⟨r2, rfl, hr, s3, u3, g3⟩
    have hb : -1 ≤ r2 ∧ r2 ≤ 20000 := by
      simp only [List.mem_cons, List.mem_nil_iff, or_false] at hr
      omega
    have hX3 := (g3.block w1.heap.size zX (by intro h; injection h; omega)).trans hX2
    have hR3 := (g3.block w.heap.size zR (by intro h; injection h; omega)).trans hR2
    have q4 := Lib.hid (And.intro s3 (And.intro u3 (gtrans G2.out g3)))
    have cX0 := cellB hX3 0 _ rfl
    have fX0 := freeB hX3 0
    have cX1 := cellB hX3 1 _ rfl
    have fX1 := freeB hX3 1
    have cX2 := cellB hX3 2 _ rfl
    have fX2 := freeB hX3 2
    have cX3 := cellB hX3 3 _ rfl
    have fX3 := freeB hX3 3
    have cR0 := cellB hR3 0 _ rfl
    have fR0 := freeB hR3 0
    have cR1 := cellB hR3 1 _ rfl
    have fR1 := freeB hR3 1
    have cR2 := cellB hR3 2 _ rfl
    have fR2 := freeB hR3 2
    have cR3 := cellB hR3 3 _ rfl
    have fR3 := freeB hR3 3
    clear s3 u3 g3 p2 hX3 hR3 hX2 hR2 G2 hr
    go_wp2
    refine bodyPost_ret (v := .agg #[.int .i64 x1, .int .i64 x2, .int .i64 x3, .int .i64 r2]) (by simp [results, Try.results17, go_sem, cX0, cX1, cX2, cX3, cR0, cR1, cR2, cR3, hne, hne']) rfl ⟨_, _, _, _, m1 + 1 + 1, rfl, by omega, by omega, by omega, by omega, by omega, ?_, ?_, ?_⟩
    · repeat (first | (with_reducible exact q4.out.1) | with_reducible refine src_set1 ?_ _ (by first | (simp; done) | (simp; omega) | omega) _ | with_reducible refine src_alloc ?_ _)
    · repeat (first | (with_reducible exact q4.out.2.1) | with_reducible refine u8_set1 ?_ _ (by first | (simp; done) | (simp; omega) | omega) _ | with_reducible refine u8_alloc ?_ _)
    · repeat (first | (with_reducible exact q4.out.2.2) | with_reducible refine grown_new ?_ _ (by first | (simp; done) | (simp; omega) | omega) _ | with_reducible refine grown_alloc ?_ _)
  have d3 : (r == 3) = false := beq_eq_false_iff_ne.2 e3
  have q4 := Lib.hid (And.intro s2 (And.intro u2 g2))
  have cX0 := cellB hX2 0 _ rfl
  have fX0 := freeB hX2 0
  have cX1 := cellB hX2 1 _ rfl
  have fX1 := freeB hX2 1
  have cX2 := cellB hX2 2 _ rfl
  have fX2 := freeB hX2 2
  have cX3 := cellB hX2 3 _ rfl
  have fX3 := freeB hX2 3
  have cR0 := cellB hR2 0 _ rfl
  have fR0 := freeB hR2 0
  have cR1 := cellB hR2 1 _ rfl
  have fR1 := freeB hR2 1
  have cR2 := cellB hR2 2 _ rfl
  have fR2 := freeB hR2 2
  have cR3 := cellB hR2 3 _ rfl
  have fR3 := freeB hR2 3
  clear s2 u2 g2 hX2 hR2 e0 e1 e2 e3
  go_wp2
  refine bodyPost_ret (v := .agg #[.int .i64 x1, .int .i64 x2, .int .i64 x3, .int .i64 x4]) (by simp [results, Try.results17, go_sem, cX0, cX1, cX2, cX3, cR0, cR1, cR2, cR3, hne, hne']) rfl ⟨_, _, _, _, m1 + 1, rfl, by omega, by omega, by omega, by omega, by omega, ?_, ?_, ?_⟩
  · repeat (first | (with_reducible exact q4.out.1) | with_reducible refine src_set1 ?_ _ (by first | (simp; done) | (simp; omega) | omega) _ | with_reducible refine src_alloc ?_ _)
  · repeat (first | (with_reducible exact q4.out.2.1) | with_reducible refine u8_set1 ?_ _ (by first | (simp; done) | (simp; omega) | omega) _ | with_reducible refine u8_alloc ?_ _)
  · repeat (first | (with_reducible exact q4.out.2.2) | with_reducible refine grown_new ?_ _ (by first | (simp; done) | (simp; omega) | omega) _ | with_reducible refine grown_alloc ?_ _)
set_option maxHeartbeats 3200000 in
theorem l10DrawHeight_any (b B n : Nat) (v : Value) (Z : List Int) (w : World) (hB : B ≤ b) (hn : n ≤ 50) (hZ : Z.length ≤ 1048576) (hs : SrcAt w b v n) (hu : U8Old B w v Z) :
    Calls Try.prog 21 #[.pointer (some ⟨b, 0, none⟩)] w (NumRet (-1) 2001 b B v Z (n + 2) w) := by
  have q1 := Lib.hid (one_any 8 (by decide) (by decide) b B n v Z w hB (by omega) hZ hs hu)
  have qa := Lib.hid (fun C t n W (hn : n ≤ 90) hs hu => among_alloc [-1, 0, 2000, 2001] (by decide) (by decide) C t b B n v Z W hB hn hZ hs hu)
  have qs := Lib.hid (fun n W (hn : n ≤ 90) => pickS_any 200 (by decide) (by decide) b B n v Z W hB hn hZ)
  clear hs hu
  go_enter Try.func21, Try.ntmps21
  go_wp2_with fail
  refine q1.out.mono ?_
  rintro e w1 ⟨t, rfl, s1, u1, g1⟩
  cases t
  · have p1 := Lib.hid (qs.out (n + 1) w1 (by omega) s1 u1)
    have G1 := Lib.hid g1
    clear s1 u1 g1 qs qa q1
    go_wp2_with fail
    refine p1.out.mono ?_
    rintro e w2 ⟨r, rfl, a2, b2, s2, u2, g2⟩
    have q4 := Lib.hid (And.intro s2 (And.intro u2 (gtrans G1.out g2)))
    clear s2 u2 g2 G1 p1
    go_wp2
    go_ret
    exact ⟨_, _, rfl, by omega, by omega, by omega, q4.out.1, q4.out.2.1, q4.out.2.2⟩
  · have p1 := Lib.hid (fun C t => qa.out C t (n + 1) w1 (by omega) s1 u1)
    have G1 := Lib.hid g1
    clear s1 u1 g1 qs qa q1
    go_wp2_with fail
    refine (p1.out _ _ rfl).mono ?_
    rintro e w2 ⟨r, rfl, hr, s2, u2, g2⟩
    have hb : -1 ≤ r ∧ r ≤ 2001 := by
      simp only [List.mem_cons, List.mem_nil_iff, or_false] at hr
      omega
    have q4 := Lib.hid (And.intro s2 (And.intro u2 (gtrans G1.out g2)))
    clear s2 u2 g2 G1 p1 hr
    go_wp2
    go_ret
    exact ⟨_, _, rfl, hb.1, hb.2, by omega, q4.out.1, q4.out.2.1, q4.out.2.2⟩
end Go.Proofs.Ytcdpkbcpglaiaaa
