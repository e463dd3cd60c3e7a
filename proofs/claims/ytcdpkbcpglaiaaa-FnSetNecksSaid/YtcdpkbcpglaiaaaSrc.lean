/-
  The model's source of choices: what is known of each choice is its bounds.
-/
import Derived.Test.YtcdpkbcpglaiaaaSplit
import Derived.Deep.QuietTactic
import Derived.BigQuiet
namespace Go.Proofs.Ytcdpkbcpglaiaaa
open Go.ChangeShapes Go.WideShapes Go.ChangeAt Go.RowKit
set_option linter.unusedVariables false
set_option linter.unusedSimpArgs false

/-- v reads as the bytes Z, which lie in a block before B -/
def U8Old (B : Nat) (w : World) (v : Value) (Z : List Int) : Prop :=
  ∃ a cap, v = .slice a Z.length cap ∧ Z.length ≤ cap ∧ (∀ n ∈ Z, 0 ≤ n ∧ n ≤ 255) ∧
    (Z = [] ∨ ∃ g o, a = some ⟨g, o, none⟩ ∧ g < B ∧ g < w.heap.size ∧ ∀ i (hi : i < Z.length), w.cell? ⟨g, o + i, none⟩ = some (.int .u8 Z[i]))
theorem cell_block {w w' : World} {g i : Nat} (h : w'.heap[g]? = w.heap[g]?) : w'.cell? ⟨g, i, none⟩ = w.cell? ⟨g, i, none⟩ := by
  simp only [World.cell?, h]
theorem U8Old.below {B : Nat} {w w' : World} {v : Value} {Z : List Int} (h : U8Old B w v Z) (hb : Below w.heap.size w w') : U8Old B w' v Z := by
  obtain ⟨a, cap, h1, h2, h3, h4⟩ := h
  refine ⟨a, cap, h1, h2, h3, ?_⟩
  rcases h4 with h4 | ⟨g, o, e, hB, hg, hc⟩
  · exact Or.inl h4
  · exact Or.inr ⟨g, o, e, hB, Nat.lt_of_lt_of_le hg hb.size, fun i hi => (cell_block (hb.block g hg)).trans (hc i hi)⟩
theorem U8Old.other {B b : Nat} {w w' : World} {v : Value} {Z : List Int} (h : U8Old B w v Z) (hb : w.grownBy w' (some b)) (hB : B ≤ b) : U8Old B w' v Z := by
  obtain ⟨a, cap, h1, h2, h3, h4⟩ := h
  refine ⟨a, cap, h1, h2, h3, ?_⟩
  rcases h4 with h4 | ⟨g, o, e, hg0, hg, hc⟩
  · exact Or.inl h4
  · exact Or.inr ⟨g, o, e, hg0, Nat.lt_of_lt_of_le hg hb.size, fun i hi => (cell_block (hb.block g hg (by intro he; injection he; omega))).trans (hc i hi)⟩
theorem u8_in {w : World} {a : Option Addr} {len cap : Nat} {zs : List Int}
    (h : (a = none ∧ len = 0 ∧ cap = 0 ∧ zs = []) ∨ ∃ x, a = some x ∧ len ≤ cap ∧ cap ≤ maxLen ∧ zs.length = cap ∧ (∀ i, i < zs.length → w.cell? (x.add i) = some (.int .u8 (zs.getD i 0))) ∧ ∀ n ∈ zs, (Lit.int .u8 n).wf = true) :
    ∃ Z : List Int, U8Old w.heap.size w (.slice a len cap) Z ∧ Z.length = len := by
  rcases h with ⟨rfl, rfl, rfl, rfl⟩ | ⟨x, rfl, hl, hm, hz, hcell, hwz⟩
  · exact ⟨[], ⟨none, 0, rfl, Nat.le_refl 0, (fun n hn => (by cases hn)), Or.inl rfl⟩, rfl⟩
  · refine ⟨zs.take len, ⟨some x, cap, by rw [List.length_take]; congr 1; omega, by rw [List.length_take]; omega, fun n hn => ?_, ?_⟩, by rw [List.length_take]; omega⟩
    · have := hwz n (List.mem_of_mem_take hn)
      simp [Lit.wf, IntKind.min, IntKind.max, IntKind.signed, IntKind.bits] at this
      exact ⟨this.1, this.2⟩
    · by_cases h0 : len = 0
      · left; subst h0; simp
      · right
        obtain ⟨b, off, spot⟩ := x
        have hc := hcell 0 (by omega)
        have hspot : spot = none := by simpa [Addr.add] using World.cell?_spot hc
        subst hspot
        have hlt : b < w.heap.size := World.block_lt_of_cell? w _ (by have := hc; simpa [Addr.add] using this)
        refine ⟨b, off, rfl, hlt, hlt, fun i hi => ?_⟩
        have hi2 : i < zs.length := by rw [List.length_take] at hi; omega
        have := hcell i hi2
        rw [add_plain] at this
        rw [this]
        simp [List.getD, List.getElem?_eq_getElem hi2]
/-- the source stands in block b -/
def SrcAt (w : World) (b : Nat) (v : Value) (n : Nat) : Prop :=
  b < w.heap.size ∧ w.cell? ⟨b, 0, none⟩ = some v ∧ w.cell? ⟨b, 1, none⟩ = some (.int .i64 n) ∧ (∃ s : Int, w.cell? ⟨b, 2, none⟩ = some (.int .u64 s)) ∧ w.frozen? ⟨b, 1, none⟩ = false ∧ w.frozen? ⟨b, 2, none⟩ = false
/-- what one choice leaves -/
def SrcRet (lim : Int) (b B : Nat) (v : Value) (Z : List Int) (n : Nat) (w : World) (e : Ending) (w' : World) : Prop :=
  ∃ r : Int, e = .returned (.int .i64 r) ∧ 0 ≤ r ∧ r < lim ∧ SrcAt w' b v n ∧ U8Old B w' v Z ∧ w.grownBy w' (some b)

theorem src_set {w : World} {b n : Nat} {v : Value} (h : SrcAt w b v n) (k : Nat) (u : Int) :
    SrcAt (((w.drewN k).setCell ⟨b, 1, none⟩ (.int .i64 ((n : Int) + 1))).setCell ⟨b, 2, none⟩ (.int .u64 u)) b v (n + 1) ∧
    (((w.drewN k).setCell ⟨b, 1, none⟩ (.int .i64 ((n : Int) + 1))).setCell ⟨b, 2, none⟩ (.int .u64 u)).cell? ⟨b, 2, none⟩ = some (.int .u64 u) ∧
    w.grownBy (((w.drewN k).setCell ⟨b, 1, none⟩ (.int .i64 ((n : Int) + 1))).setCell ⟨b, 2, none⟩ (.int .u64 u)) (some b) := by
  obtain ⟨hb, c0, c1, ⟨s, c2⟩, z1, z2⟩ := h
  have c0' : (w.drewN k).cell? ⟨b, 0, none⟩ = some v := c0
  have c1' : (w.drewN k).cell? ⟨b, 1, none⟩ = some (.int .i64 n) := c1
  have c2' : (w.drewN k).cell? ⟨b, 2, none⟩ = some (.int .u64 s) := c2
  have e2 : ((w.drewN k).setCell ⟨b, 1, none⟩ (.int .i64 ((n : Int) + 1))).cell? ⟨b, 2, none⟩ = some (.int .u64 s) := by
    rw [World.cell?_setCell_other _ _ _ _ (by simp)]; exact c2'
  have f2 := World.cell?_setCell_same _ _ (.int .u64 u) e2
  refine ⟨⟨by simpa using hb, ?_, ?_, ⟨u, f2⟩, ?_, ?_⟩, f2, ?_⟩
  · rw [World.cell?_setCell_other _ _ _ _ (by simp), World.cell?_setCell_other _ _ _ _ (by simp)]; exact c0'
  · rw [World.cell?_setCell_other _ _ _ _ (by simp), World.cell?_setCell_same _ _ _ c1']; push_cast; rfl
  · rw [World.frozen?_setCell, World.frozen?_setCell]; exact z1
  · rw [World.frozen?_setCell, World.frozen?_setCell]; exact z2
  · refine ⟨rfl, rfl, rfl, by simp, fun j hj hne => ?_⟩
    have hjb : j ≠ b := fun e => hne (by rw [e])
    rw [heap_setCell_other _ _ _ _ hjb, heap_setCell_other _ _ _ _ hjb]; rfl
/-- the walk goes on in a world of which only this is known -/
theorem src_cut {P : Program} {c : Code} {Q : Exit → Act → World → Prop} {a : Act} {w : World} {b n k : Nat} {v : Value} {u : Int} (h : SrcAt w b v n)
    (hk : ∀ w2, SrcAt w2 b v (n + 1) → w2.cell? ⟨b, 2, none⟩ = some (.int .u64 u) → w.grownBy w2 (some b) → c.wp P Q a w2) :
    c.wp P Q a (((w.drewN k).setCell ⟨b, 1, none⟩ (.int .i64 ((n : Int) + 1))).setCell ⟨b, 2, none⟩ (.int .u64 u)) :=
  hk _ (src_set h k u).1 (src_set h k u).2.1 (src_set h k u).2.2
theorem SrcAt.drewN {w : World} {b n : Nat} {v : Value} (h : SrcAt w b v n) (k : Nat) : SrcAt (w.drewN k) b v n := h
theorem U8Old.drewN {B : Nat} {w : World} {v : Value} {Z : List Int} (h : U8Old B w v Z) (k : Nat) : U8Old B (w.drewN k) v Z := h

theorem seed_byte (y : Int) : 0 ≤ wrap64 (bits BinOp.and IntKind.u64 (IntKind.u64.wrap y / 1099511627776) 255) ∧ wrap64 (bits BinOp.and IntKind.u64 (IntKind.u64.wrap y / 1099511627776) 255) < 256 := by
  have hy : 0 ≤ IntKind.u64.wrap y ∧ IntKind.u64.wrap y < 18446744073709551616 := by rw [IntKind.wrap_u64]; omega
  obtain ⟨x, hx⟩ : ∃ x, x = IntKind.u64.wrap y / 1099511627776 := ⟨_, rfl⟩
  rw [← hx]
  have hx2 : 0 ≤ x ∧ x < 18446744073709551616 := by omega
  rw [u64_and x 255 hx2.1 hx2.2 (by decide) (by decide)]
  have := Nat.and_le_right (n := x.toNat) (m := Int.toNat 255)
  have e : Int.toNat 255 = 255 := rfl
  unfold wrap64
  omega

set_option maxHeartbeats 1600000 in
set_option maxRecDepth 1000000 in
theorem next_any (b B n : Nat) (v : Value) (Z : List Int) (w : World) (hB : B ≤ b) (hn : n ≤ 100) (hZ : Z.length ≤ 1048576) (hs : SrcAt w b v n) (hu : U8Old B w v Z) :
    Calls Try.prog 41 #[.pointer (some ⟨b, 0, none⟩)] w (SrcRet 256 b B v Z (n + 1) w) := by
  have hs' := Lib.hid hs
  have hu' := Lib.hid hu
  obtain ⟨hbs, c0, c1, ⟨s, c2⟩, z1, z2⟩ := hs
  obtain ⟨a, cap, rfl, hcap, hin, hread⟩ := hu
  by_cases hlt : n < Z.length
  · rcases hread with rfl | ⟨g, o, rfl, hg0, hg, hc⟩
    · simp at hlt
    obtain ⟨x, hx⟩ : ∃ x, x = Z[n] := ⟨_, rfl⟩
    have c3 : w.cell? ⟨g, o + n, none⟩ = some (.int .u8 x) := by rw [hx]; exact hc n hlt
    have hx0 := hin x (by rw [hx]; exact List.getElem_mem hlt)
    clear hc hin hx
    have hd : decide ((n : Int) < (Z.length : Int)) = true := by simp; omega
    have hd2 : decide ((n : Int) + 1 ≤ (Z.length : Int)) = true := by simp; omega
    go_enter Try.func41, Try.ntmps41
    go_wp2
    go_quiet (fail)
    go_wp2
    go_quiet (fail)
    go_wp2
    refine src_cut hs'.out fun w2 h2 d2 g2 => ?_
    have h2' := Lib.hid h2
    obtain ⟨_, e0, e1, _, _, _⟩ := h2
    have e1' : w2.cell? ⟨b, 1, none⟩ = some (.int .i64 ((n : Int) + 1)) := by rw [e1]; push_cast; rfl
    clear e1 c0 c1 c2 c3
    go_quiet (fail)
    go_wp2
    go_ret
    exact ⟨x, rfl, hx0.1, by omega, h2'.out.drewN _, (hu'.out.other g2 hB).drewN _, grown_drewN g2 _⟩
  · clear hread
    have hd : decide ((n : Int) < (Z.length : Int)) = false := by simp; omega
    have hd2 : decide ((n : Int) + 1 ≤ (Z.length : Int)) = false := by simp; omega
    go_enter Try.func41, Try.ntmps41
    go_wp2
    go_quiet (fail)
    go_wp2
    refine src_cut hs'.out fun w2 h2 d2 g2 => ?_
    have h2' := Lib.hid h2
    obtain ⟨_, e0, e1, _, _, _⟩ := h2
    have e1' : w2.cell? ⟨b, 1, none⟩ = some (.int .i64 ((n : Int) + 1)) := by rw [e1]; push_cast; rfl
    clear e1 c0 c1 c2
    go_quiet (fail)
    go_wp2
    go_ret
    exact ⟨_, rfl, (seed_byte _).1, (seed_byte _).2, h2'.out.drewN _, (hu'.out.other g2 hB).drewN _, grown_drewN g2 _⟩

set_option maxHeartbeats 1600000 in
set_option maxRecDepth 1000000 in
theorem pick_any (lim : Int) (h1 : 200 < lim) (h2 : lim ≤ 60000) (b B n : Nat) (v : Value) (Z : List Int) (w : World) (hB : B ≤ b) (hn : n ≤ 90) (hZ : Z.length ≤ 1048576) (hs : SrcAt w b v n) (hu : U8Old B w v Z) :
    Calls Try.prog 30 #[.pointer (some ⟨b, 0, none⟩), .int .i64 lim] w (SrcRet lim b B v Z (n + 2) w) := by
  have q1 := Lib.hid (next_any b B n v Z w hB (by omega) hZ hs hu)
  have q2 := Lib.hid (fun W => next_any b B (n + 1) v Z W hB (by omega) hZ)
  clear hs hu
  have d1 : decide (lim ≤ 1) = false := by simp; omega
  have d2 : decide (200 < lim) = true := by simp; omega
  go_enter Try.func30, Try.ntmps30
  go_wp2_with fail
  refine q1.out.mono ?_
  rintro e w1 ⟨r1, rfl, a1, b1, s1, u1, g1⟩
  have q3 := Lib.hid (q2.out w1 s1 u1)
  clear s1 u1 q1 q2
  go_wp2_with fail
  refine q3.out.mono ?_
  rintro e w2 ⟨r2, rfl, a2, b2, s2, u2, g2⟩
  have q4 := Lib.hid (And.intro s2 (And.intro u2 (gtrans g1 g2)))
  clear s2 u2 g1 g2 q3
  go_wp2
  have hm : 0 ≤ (r1 * 256 + r2) % lim ∧ (r1 * 256 + r2) % lim < lim := ⟨Int.emod_nonneg _ (by omega), Int.emod_lt_of_pos _ (by omega)⟩
  go_ret
  exact ⟨_, rfl, hm.1, hm.2, q4.out.1, q4.out.2.1, q4.out.2.2⟩

set_option maxHeartbeats 1600000 in
set_option maxRecDepth 1000000 in
theorem l00From_any (v : Value) (Z : List Int) (w : World) (hu : U8Old w.heap.size w v Z) :
    Calls Try.prog 15 #[v] w fun e w' => e = .returned (.pointer (some ⟨w.heap.size, 0, none⟩)) ∧ SrcAt w' w.heap.size v 0 ∧ U8Old w.heap.size w' v Z ∧ Below w.heap.size w w' := by
  have hu' := Lib.hid hu
  obtain ⟨a, cap, rfl, _⟩ := hu
  go_enter Try.func15, Try.ntmps15
  go_wp2
  go_ret
  exact ⟨rfl, ⟨by simp, World.cell?_alloc_mark _ _ _ _ _, World.cell?_alloc_mark _ _ _ _ _, ⟨0, World.cell?_alloc_mark _ _ _ _ _⟩, by rw [World.frozen?_alloc_mark]; rfl, by rw [World.frozen?_alloc_mark]; rfl⟩,
    hu'.out.below ((Below.refl _ _).alloc (Nat.le_refl _) _), (Below.refl _ _).alloc (Nat.le_refl _) _⟩

end Go.Proofs.Ytcdpkbcpglaiaaa
