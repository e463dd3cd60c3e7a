/-
  The model's drawn days and working days: what is known of each draw is its bounds.
-/
import Derived.Test.YtcdpkbcpglaiaaaSrc
namespace Go.Proofs.Ytcdpkbcpglaiaaa
open Go.ChangeShapes Go.WideShapes Go.ChangeAt Go.RowKit
set_option linter.unusedVariables false
set_option linter.unusedSimpArgs false
theorem SrcAt.below {w w' : World} {b n : Nat} {v : Value} (h : SrcAt w b v n) (hb : Below w.heap.size w w') : SrcAt w' b v n := by
  obtain ⟨h0, c0, c1, ⟨s, c2⟩, z1, z2⟩ := h
  have e := hb.block b h0
  refine ⟨Nat.lt_of_lt_of_le h0 hb.size, (cell_block e).trans c0, (cell_block e).trans c1, ⟨s, (cell_block e).trans c2⟩, ?_, ?_⟩
  · rw [← z1]; simp only [World.frozen?, e]
  · rw [← z2]; simp only [World.frozen?, e]
set_option maxHeartbeats 1600000 in
set_option maxRecDepth 1000000 in
theorem pickS_any (lim : Int) (h1 : 1 < lim) (h2 : lim ≤ 200) (b B n : Nat) (v : Value) (Z : List Int) (w : World) (hB : B ≤ b) (hn : n ≤ 90) (hZ : Z.length ≤ 1048576) (hs : SrcAt w b v n) (hu : U8Old B w v Z) :
    Calls Try.prog 30 #[.pointer (some ⟨b, 0, none⟩), .int .i64 lim] w (SrcRet lim b B v Z (n + 1) w) := by
  have q1 := Lib.hid (next_any b B n v Z w hB (by omega) hZ hs hu)
  clear hs hu
  have d1 : decide (lim ≤ 1) = false := by simp; omega
  have d2 : decide (200 < lim) = false := by simp; omega
  go_enter Try.func30, Try.ntmps30
  go_wp2_with fail
  refine q1.out.mono ?_
  rintro e w1 ⟨r1, rfl, a1, b1, s1, u1, g1⟩
  have q4 := Lib.hid (And.intro s1 (And.intro u1 g1))
  clear s1 u1 g1
  go_wp2
  have hm : 0 ≤ r1 % lim ∧ r1 % lim < lim := ⟨Int.emod_nonneg _ (by omega), Int.emod_lt_of_pos _ (by omega)⟩
  go_ret
  exact ⟨_, rfl, hm.1, hm.2, q4.out.1, q4.out.2.1, q4.out.2.2⟩
/-- what a question leaves -/
def OneRet (b B : Nat) (v : Value) (Z : List Int) (n : Nat) (w : World) (e : Ending) (w' : World) : Prop :=
  ∃ t : Bool, e = .returned (.bool t) ∧ SrcAt w' b v n ∧ U8Old B w' v Z ∧ w.grownBy w' (some b)
set_option maxHeartbeats 1600000 in
set_option maxRecDepth 1000000 in
theorem one_any (lim : Int) (h1 : 1 < lim) (h2 : lim ≤ 200) (b B n : Nat) (v : Value) (Z : List Int) (w : World) (hB : B ≤ b) (hn : n ≤ 90) (hZ : Z.length ≤ 1048576) (hs : SrcAt w b v n) (hu : U8Old B w v Z) :
    Calls Try.prog 31 #[.pointer (some ⟨b, 0, none⟩), .int .i64 lim] w (OneRet b B v Z (n + 1) w) := by
  have q1 := Lib.hid (pickS_any lim h1 h2 b B n v Z w hB (by omega) hZ hs hu)
  clear hs hu
  go_enter Try.func31, Try.ntmps31
  go_wp2_with fail
  refine q1.out.mono ?_
  rintro e w1 ⟨r1, rfl, a1, b1, s1, u1, g1⟩
  have q4 := Lib.hid (And.intro s1 (And.intro u1 g1))
  clear s1 u1 g1
  go_wp2
  go_ret
  exact ⟨_, rfl, q4.out.1, q4.out.2.1, q4.out.2.2⟩
/-- what a choice among numbers leaves -/
def AmRet (L : List Int) (b B : Nat) (v : Value) (Z : List Int) (n : Nat) (w : World) (e : Ending) (w' : World) : Prop :=
  ∃ r : Int, e = .returned (.int .i64 r) ∧ r ∈ L ∧ SrcAt w' b v n ∧ U8Old B w' v Z ∧ w.grownBy w' (some b)
set_option maxHeartbeats 1600000 in
set_option maxRecDepth 1000000 in
theorem among_any (L : List Int) (h1 : 1 < L.length) (h2 : L.length ≤ 200) (g b B n : Nat) (v : Value) (Z : List Int) (w : World) (hB : B ≤ b) (hn : n ≤ 90) (hZ : Z.length ≤ 1048576) (hs : SrcAt w b v n) (hu : U8Old B w v Z) (hg : g < w.heap.size) (hgb : g ≠ b)
    (hc : ∀ i (hi : i < L.length), w.cell? ⟨g, i, none⟩ = some (.int .i64 L[i])) :
    Calls Try.prog 22 #[.pointer (some ⟨b, 0, none⟩), .slice (some ⟨g, 0, none⟩) L.length L.length] w (AmRet L b B v Z (n + 1) w) := by
  have q1 := Lib.hid (pickS_any (L.length : Int) (by omega) (by omega) b B n v Z w hB (by omega) hZ hs hu)
  have hc' := Lib.hid hc
  clear hs hu hc
  go_enter Try.func22, Try.ntmps22
  go_wp2_with fail
  refine q1.out.mono ?_
  rintro e w1 ⟨r1, rfl, a1, b1, s1, u1, g1⟩
  obtain ⟨k, rfl⟩ := Int.eq_ofNat_of_zero_le a1
  have hk : k < L.length := by omega
  have cc : w1.cell? ⟨g, k, none⟩ = some (.int .i64 L[k]) := (cell_block (g1.block g hg (by intro he; injection he with he; exact hgb he))).trans (hc'.out k hk)
  have hmem : Hid (L[k] ∈ L) := Lib.hid (List.getElem_mem hk)
  obtain ⟨x, hx⟩ : ∃ x, x = L[k] := ⟨_, rfl⟩
  rw [← hx] at cc hmem
  have q4 := Lib.hid (And.intro s1 (And.intro u1 g1))
  clear s1 u1 g1 hx
  go_wp2
  go_ret
  exact ⟨_, rfl, hmem.out, q4.out.1, q4.out.2.1, q4.out.2.2⟩
/-- what a drawn number leaves -/
def NumRet (lo hi : Int) (b B : Nat) (v : Value) (Z : List Int) (n : Nat) (w : World) (e : Ending) (w' : World) : Prop :=
  ∃ (r : Int) (m : Nat), e = .returned (.int .i64 r) ∧ lo ≤ r ∧ r ≤ hi ∧ m ≤ n ∧ SrcAt w' b v m ∧ U8Old B w' v Z ∧ w.grownBy w' (some b)
theorem among_alloc (L : List Int) (h1 : 1 < L.length) (h2 : L.length ≤ 200) (C : Array Value) (t : TypeId) (b B n : Nat) (v : Value) (Z : List Int) (w : World) (hB : B ≤ b) (hn : n ≤ 90) (hZ : Z.length ≤ 1048576) (hs : SrcAt w b v n) (hu : U8Old B w v Z)
    (hC : C = (L.map fun x => Value.int .i64 x).toArray) :
    Calls Try.prog 22 #[.pointer (some ⟨b, 0, none⟩), .slice (some ⟨w.heap.size, 0, none⟩) L.length L.length] (w.alloc (.cells C t)) (AmRet L b B v Z (n + 1) w) := by
  have hb : Below w.heap.size w (w.alloc (.cells C t)) := (Below.refl _ _).alloc (Nat.le_refl _) _
  refine (among_any L h1 h2 w.heap.size b B n v Z (w.alloc (.cells C t)) hB hn hZ (hs.below hb) (hu.below hb) (by simp) (by have := hs.1; omega) (fun i hi => ?_)).mono ?_
  · rw [World.cell?_alloc_mark, hC]
    simp [hi]
  · rintro e w' ⟨r, he, hr, s, u, g⟩
    exact ⟨r, he, hr, s, u, gtrans (below_grown' hb _) g⟩
theorem from_any (v : Value) (Z : List Int) (w : World) (hu : U8Old w.heap.size w v Z) :
    Hid (Calls Try.prog 15 #[v] w fun e w' => ∃ b, e = .returned (.pointer (some ⟨b, 0, none⟩)) ∧ w.heap.size ≤ b ∧ SrcAt w' b v 0 ∧ U8Old w.heap.size w' v Z ∧ Below w.heap.size w w') :=
  Lib.hid ((l00From_any v Z w hu).mono fun e w' h => ⟨w.heap.size, h.1, Nat.le_refl _, h.2⟩)
end Go.Proofs.Ytcdpkbcpglaiaaa
