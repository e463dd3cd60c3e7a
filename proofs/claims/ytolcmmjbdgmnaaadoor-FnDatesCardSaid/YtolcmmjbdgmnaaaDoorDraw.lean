/-
  The model's drawn days and working days: what is known of each draw is its bounds.
-/
import Derived.Test.YtolcmmjbdgmnaaaDoorSrc
namespace Go.Proofs.YtolcmmjbdgmnaaaDoor
open Go.ChangeShapes Go.WideShapes Go.ChangeAt Go.RowKit
set_option linter.unusedVariables false
set_option linter.unusedSimpArgs false
theorem SrcAt.below {w w' : World} {b n : Nat} {v : Value} (h : SrcAt w b v n) (hb : Below w.heap.size w w') : SrcAt w' b v n := by
  obtain ⟨h0, c0, c1, ⟨s, c2⟩, z1, z2⟩ := h
  have e := hb.block b h0
  refine ⟨Nat.lt_of_lt_of_le h0 hb.size, (cell_block e).trans c0, (cell_block e).trans c1, ⟨s, (cell_block e).trans c2⟩, ?_, ?_⟩
  · rw [← z1]; simp only [World.frozen?, e]
  · rw [← z2]; simp only [World.frozen?, e]
set_option maxHeartbeats 1600000 in
set_option maxRecDepth 1000000 in
theorem pickS_any (lim : Int) (h1 : 1 < lim) (h2 : lim ≤ 200) (b B n : Nat) (v : Value) (Z : List Int) (w : World) (hB : B ≤ b) (hn : n ≤ 90) (hZ : Z.length ≤ 1048576) (hs : SrcAt w b v n) (hu : U8Old B w v Z) :
    Calls Tryd.prog 52 #[.pointer (some ⟨b, 0, none⟩), .int .i64 lim] w (SrcRet lim b B v Z (n + 1) w) := by
  have q1 := Lib.hid (next_any b B n v Z w hB (by omega) hZ hs hu)
  clear hs hu
  have d1 : decide (lim ≤ 1) = false := by simp; omega
  have d2 : decide (200 < lim) = false := by simp; omega
  go_enter Tryd.func52, Tryd.ntmps52
  go_wp2_with fail
  refine q1.out.mono ?_
  rintro e w1 ⟨r1, rfl, a1, b1, s1, u1, g1⟩
  have q4 := Lib.hid (And.intro s1 (And.intro u1 g1))
  clear s1 u1 g1
  go_wp2
  have hm : 0 ≤ r1 % lim ∧ r1 % lim < lim := ⟨Int.emod_nonneg _ (by omega), Int.emod_lt_of_pos _ (by omega)⟩
  go_ret
  exact ⟨_, rfl, hm.1, hm.2, q4.out.1, q4.out.2.1, q4.out.2.2⟩
/-- what a question leaves -/
def OneRet (b B : Nat) (v : Value) (Z : List Int) (n : Nat) (w : World) (e : Ending) (w' : World) : Prop :=
  ∃ t : Bool, e = .returned (.bool t) ∧ SrcAt w' b v n ∧ U8Old B w' v Z ∧ w.grownBy w' (some b)
set_option maxHeartbeats 1600000 in
set_option maxRecDepth 1000000 in
theorem one_any (lim : Int) (h1 : 1 < lim) (h2 : lim ≤ 200) (b B n : Nat) (v : Value) (Z : List Int) (w : World) (hB : B ≤ b) (hn : n ≤ 90) (hZ : Z.length ≤ 1048576) (hs : SrcAt w b v n) (hu : U8Old B w v Z) :
    Calls Tryd.prog 51 #[.pointer (some ⟨b, 0, none⟩), .int .i64 lim] w (OneRet b B v Z (n + 1) w) := by
  have q1 := Lib.hid (pickS_any lim h1 h2 b B n v Z w hB (by omega) hZ hs hu)
  clear hs hu
  go_enter Tryd.func51, Tryd.ntmps51
  go_wp2_with fail
  refine q1.out.mono ?_
  rintro e w1 ⟨r1, rfl, a1, b1, s1, u1, g1⟩
  have q4 := Lib.hid (And.intro s1 (And.intro u1 g1))
  clear s1 u1 g1
  go_wp2
  go_ret
  exact ⟨_, rfl, q4.out.1, q4.out.2.1, q4.out.2.2⟩
/-- what a choice among numbers leaves -/
def AmRet (L : List Int) (b B : Nat) (v : Value) (Z : List Int) (n : Nat) (w : World) (e : Ending) (w' : World) : Prop :=
  ∃ r : Int, e = .returned (.int .i64 r) ∧ r ∈ L ∧ SrcAt w' b v n ∧ U8Old B w' v Z ∧ w.grownBy w' (some b)
set_option maxHeartbeats 1600000 in
set_option maxRecDepth 1000000 in
theorem among_any (L : List Int) (h1 : 1 < L.length) (h2 : L.length ≤ 200) (g b B n : Nat) (v : Value) (Z : List Int) (w : World) (hB : B ≤ b) (hn : n ≤ 90) (hZ : Z.length ≤ 1048576) (hs : SrcAt w b v n) (hu : U8Old B w v Z) (hg : g < w.heap.size) (hgb : g ≠ b)
    (hc : ∀ i (hi : i < L.length), w.cell? ⟨g, i, none⟩ = some (.int .i64 L[i])) :
    Calls Tryd.prog 36 #[.pointer (some ⟨b, 0, none⟩), .slice (some ⟨g, 0, none⟩) L.length L.length] w (AmRet L b B v Z (n + 1) w) := by
  have q1 := Lib.hid (pickS_any (L.length : Int) (by omega) (by omega) b B n v Z w hB (by omega) hZ hs hu)
  have hc' := Lib.hid hc
  clear hs hu hc
  go_enter Tryd.func36, Tryd.ntmps36
  go_wp2_with fail
  refine q1.out.mono ?_
  rintro e w1 ⟨r1, rfl, a1, b1, s1, u1, g1⟩
  obtain ⟨k, rfl⟩ := Int.eq_ofNat_of_zero_le a1
  have hk : k < L.length := by omega
  have cc : w1.cell? ⟨g, k, none⟩ = some (.int .i64 L[k]) := (cell_block (g1.block g hg (by intro he; injection he with he; exact hgb he))).trans (hc'.out k hk)
  have hmem : Hid (L[k] ∈ L) := Lib.hid (List.getElem_mem hk)
  obtain ⟨x, hx⟩ : ∃ x, x = L[k] := ⟨_, rfl⟩
  rw [← hx] at cc hmem
  have q4 := Lib.hid (And.intro s1 (And.intro u1 g1))
  clear s1 u1 g1 hx
  go_wp2
  go_ret
  exact ⟨_, rfl, hmem.out, q4.out.1, q4.out.2.1, q4.out.2.2⟩
/-- what a drawn number leaves -/
def NumRet (lo hi : Int) (b B : Nat) (v : Value) (Z : List Int) (n : Nat) (w : World) (e : Ending) (w' : World) : Prop :=
  ∃ (r : Int) (m : Nat), e = .returned (.int .i64 r) ∧ lo ≤ r ∧ r ≤ hi ∧ m ≤ n ∧ SrcAt w' b v m ∧ U8Old B w' v Z ∧ w.grownBy w' (some b)
theorem among_alloc (L : List Int) (h1 : 1 < L.length) (h2 : L.length ≤ 200) (C : Array Value) (t : TypeId) (b B n : Nat) (v : Value) (Z : List Int) (w : World) (hB : B ≤ b) (hn : n ≤ 90) (hZ : Z.length ≤ 1048576) (hs : SrcAt w b v n) (hu : U8Old B w v Z)
    (hC : C = (L.map fun x => Value.int .i64 x).toArray) :
    Calls Tryd.prog 36 #[.pointer (some ⟨b, 0, none⟩), .slice (some ⟨w.heap.size, 0, none⟩) L.length L.length] (w.alloc (.cells C t)) (AmRet L b B v Z (n + 1) w) := by
  have hb : Below w.heap.size w (w.alloc (.cells C t)) := (Below.refl _ _).alloc (Nat.le_refl _) _
  refine (among_any L h1 h2 w.heap.size b B n v Z (w.alloc (.cells C t)) hB hn hZ (hs.below hb) (hu.below hb) (by simp) (by have := hs.1; omega) (fun i hi => ?_)).mono ?_
  · rw [World.cell?_alloc_mark, hC]
    simp [hi]
  · rintro e w' ⟨r, he, hr, s, u, g⟩
    exact ⟨r, he, hr, s, u, gtrans (below_grown' hb _) g⟩
set_option maxHeartbeats 1600000 in
set_option maxRecDepth 1000000 in
theorem l02DrawDay_any (b B n : Nat) (v : Value) (Z : List Int) (w : World) (hB : B ≤ b) (hn : n ≤ 50) (hZ : Z.length ≤ 1048576) (hs : SrcAt w b v n) (hu : U8Old B w v Z) :
    Calls Tryd.prog 25 #[.pointer (some ⟨b, 0, none⟩)] w (NumRet (-1) 36525 b B v Z (n + 4) w) := by
  have q1 := Lib.hid (one_any 8 (by decide) (by decide) b B n v Z w hB (by omega) hZ hs hu)
  have qa := Lib.hid (fun C t n W (hn : n ≤ 90) hs hu => among_alloc [-1, 0, 59, 60, 36524, 36525, 366, 365] (by decide) (by decide) C t b B n v Z W hB hn hZ hs hu)
  have qp := Lib.hid (fun n W (hn : n ≤ 90) => pick_any 256 (by decide) (by decide) b B n v Z W hB hn hZ)
  have qs := Lib.hid (fun n W (hn : n ≤ 90) => pickS_any 200 (by decide) (by decide) b B n v Z W hB hn hZ)
  clear hs hu
  go_enter Tryd.func25, Tryd.ntmps25
  go_wp2_with fail
  refine q1.out.mono ?_
  rintro e w1 ⟨t, rfl, s1, u1, g1⟩
  cases t
  · have p1 := Lib.hid (qp.out (n + 1) w1 (by omega) s1 u1)
    have G1 := Lib.hid g1
    clear s1 u1 g1 qp qa q1
    go_wp2_with fail
    refine p1.out.mono ?_
    rintro e w2 ⟨r, rfl, a2, b2, s2, u2, g2⟩
    have p2 := Lib.hid (qs.out (n + 1 + 2) w2 (by omega) s2 u2)
    have G2 := Lib.hid (gtrans G1.out g2)
    clear s2 u2 g2 qs p1 G1
    go_wp2_with fail
    refine p2.out.mono ?_
    rintro e w3 ⟨r3, rfl, a3, b3, s3, u3, g3⟩
    have q4 := Lib.hid (And.intro s3 (And.intro u3 (gtrans G2.out g3)))
    clear s3 u3 g3 G2 p2
    go_wp2
    go_ret
    exact ⟨_, _, rfl, by omega, by omega, by omega, q4.out.1, q4.out.2.1, q4.out.2.2⟩
  · have p1 := Lib.hid (fun C t => qa.out C t (n + 1) w1 (by omega) s1 u1)
    have G1 := Lib.hid g1
    clear s1 u1 g1 qp qs qa q1
    go_wp2_with fail
    refine (p1.out _ _ rfl).mono ?_
    rintro e w2 ⟨r, rfl, hr, s2, u2, g2⟩
    have hb : -1 ≤ r ∧ r ≤ 36525 := by
      simp only [List.mem_cons, List.mem_nil_iff, or_false] at hr
      omega
    have q4 := Lib.hid (And.intro s2 (And.intro u2 (gtrans G1.out g2)))
    clear s2 u2 g2 G1 p1 hr
    go_wp2
    go_ret
    exact ⟨_, _, rfl, hb.1, hb.2, by omega, q4.out.1, q4.out.2.1, q4.out.2.2⟩
theorem from_any (v : Value) (Z : List Int) (w : World) (hu : U8Old w.heap.size w v Z) :
    Hid (Calls Tryd.prog 24 #[v] w fun e w' => ∃ b, e = .returned (.pointer (some ⟨b, 0, none⟩)) ∧ w.heap.size ≤ b ∧ SrcAt w' b v 0 ∧ U8Old w.heap.size w' v Z ∧ Below w.heap.size w w') :=
  Lib.hid ((l00From_any v Z w hu).mono fun e w' h => ⟨w.heap.size, h.1, Nat.le_refl _, h.2⟩)
set_option maxHeartbeats 1600000 in
set_option maxRecDepth 1000000 in
theorem DrawDateOf_any (v : Value) (Z : List Int) (w : World) (hZ : Z.length ≤ 1048576) (hu : U8Old w.heap.size w v Z) :
    Calls Tryd.prog 6 #[v] w fun e w' => ∃ r, e = .returned (.int .i64 r) ∧ -1 ≤ r ∧ r ≤ 36525 ∧ Below w.heap.size w w' := by
  have q0 := from_any v Z w hu
  clear hu
  have qd := Lib.hid (fun b W (hb : w.heap.size ≤ b) => l02DrawDay_any b w.heap.size 0 v Z W hb (by decide) hZ)
  go_enter Tryd.func6, Tryd.ntmps6
  go_wp2_with fail
  refine q0.out.mono ?_
  rintro e w1 ⟨b, rfl, hb, s1, u1, g1⟩
  have G1 := Lib.hid g1
  have p1 := Lib.hid (qd.out b w1 hb s1 u1)
  clear s1 u1 q0 g1 qd
  go_wp2_with fail
  refine p1.out.mono ?_
  rintro e w2 ⟨r, m, rfl, a2, b2, hm, s2, u2, g2⟩
  have G2 := Lib.hid (G1.out.grown g2 G1.out.size (fun k hk => (by injection hk with hk; omega)))
  clear s2 u2 p1 g2 G1
  go_wp2
  go_ret
  exact ⟨_, rfl, a2, b2, G2.out⟩
set_option maxHeartbeats 1600000 in
set_option maxRecDepth 1000000 in
theorem DrawWorkDays_any (v : Value) (Z : List Int) (w : World) (hZ : Z.length ≤ 1048576) (hu : U8Old w.heap.size w v Z) :
    Calls Tryd.prog 12 #[v] w fun e w' => ∃ f u, e = .returned (.tuple #[.int .i64 f, .int .i64 u]) ∧ -1 ≤ f ∧ f ≤ 36525 ∧ -2 ≤ u ∧ u ≤ 36890 ∧ Below w.heap.size w w' := by
  have q0 := from_any v Z w hu
  clear hu
  have qd := Lib.hid (fun b W (hb : w.heap.size ≤ b) => l02DrawDay_any b w.heap.size 0 v Z W hb (by decide) hZ)
  have qa := Lib.hid (fun b C t n W (hb : w.heap.size ≤ b) (hn : n ≤ 90) hs hu => among_alloc [0, 1, 7, 30, 365, -1, 5] (by decide) (by decide) C t b w.heap.size n v Z W hb hn hZ hs hu)
  go_enter Tryd.func12, Tryd.ntmps12
  go_wp2_with fail
  refine q0.out.mono ?_
  rintro e w1 ⟨b, rfl, hb, s1, u1, g1⟩
  have G1 := Lib.hid g1
  have p1 := Lib.hid (qd.out b w1 hb s1 u1)
  clear s1 u1 q0 g1 qd
  go_wp2_with fail
  refine p1.out.mono ?_
  rintro e w2 ⟨r, m, rfl, a2, b2, hm, s2, u2, g2⟩
  have G2 := Lib.hid (G1.out.grown g2 G1.out.size (fun k hk => (by injection hk with hk; omega)))
  have p2 := Lib.hid (fun C t => qa.out b C t m w2 hb (by omega) s2 u2)
  clear s2 u2 p1 g2 G1 qa
  go_wp2_with fail
  refine (p2.out _ _ rfl).mono ?_
  rintro e w3 ⟨r3, rfl, hr, s3, u3, g3⟩
  have hb3 : -1 ≤ r3 ∧ r3 ≤ 365 := by
    simp only [List.mem_cons, List.mem_nil_iff, or_false] at hr
    omega
  have G3 := Lib.hid (G2.out.grown g3 G2.out.size (fun k hk => (by injection hk with hk; omega)))
  clear s3 u3 p2 g3 G2 hr
  go_wp2
  go_ret2
  exact ⟨_, _, rfl, by omega, by omega, by omega, by omega, G3.out⟩
end Go.Proofs.YtolcmmjbdgmnaaaDoor
