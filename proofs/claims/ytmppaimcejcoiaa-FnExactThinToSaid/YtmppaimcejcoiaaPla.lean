/-
  The program's places, one after the other; heights at places.
-/
import Derived.Test.YtmppaimcejcoiaaArchI
import Derived.Test.YtmppaimcejcoiaaSeqK
import Derived.Shelf.Abstract
import Derived.Shelf.RegionOpen
import Derived.OwnWalkIn
import Derived.TacticsInMore
import Derived.LoopNIn
import Derived.LoopIn
namespace Go.Proofs.Ytmppaimcejcoiaa
open Go.ChangeShapes Go.WideShapes Go.ChangeAt Go.RowKit Go.Deep
set_option linter.unusedVariables false
set_option linter.unusedSimpArgs false
attribute [local go_sem] Oper.semAt_some
def encP (x : Nat × Nat) : Value := .agg #[.int .i64 (x.1 : Int), .int .i64 (x.2 : Int)]
def csP (x : Nat × Nat) : Array Value := #[.int .i64 (x.1 : Int), .int .i64 (x.2 : Int)]
/-- a box holds a grid of so many rows and columns -/
structure PlH (w : World) (bg g o cap R C : Nat) : Prop where
  box : w.cell? ⟨bg, 0, none⟩ = some (.slice (some ⟨g, o, none⟩) R cap)
  rows : ∀ i, i < R → ∃ a c, w.cell? ⟨g, o + i, none⟩ = some (.slice a C c)
  R1 : 1 ≤ R
  R10 : R ≤ 10
  C10 : C ≤ 10
theorem PlH.below {w w' : World} {bg g o cap R C : Nat} (h : PlH w bg g o cap R C) (hb : Below w.heap.size w w') : PlH w' bg g o cap R C :=
  ⟨(hb.cell (p := ⟨bg, 0, none⟩) (World.block_lt_of_cell? w _ h.box)).trans h.box, fun i hi => by
    obtain ⟨a, c, e⟩ := h.rows i hi
    exact ⟨a, c, (hb.cell (p := ⟨g, o + i, none⟩) (World.block_lt_of_cell? w _ e)).trans e⟩, h.R1, h.R10, h.C10⟩
theorem cell_keeps {Kb : Nat → Prop} {A C : World} (h : Keeps Kb A C) {p : Addr} (hg : Kb p.block) {v : Value} (hx : A.cell? p = some v) : C.cell? p = some v := by
  obtain ⟨q, hq, hc⟩ := cells_of_cell hx
  have := h.same p.block q hg hq hc
  rw [← hx]; unfold World.cell?; rw [this, hq]
theorem PlH.keeps {Kb : Nat → Prop} {w w' : World} {bg g o cap R C : Nat} (h : PlH w bg g o cap R C) (k1 : Kb bg) (k2 : Kb g) (hb : Keeps Kb w w') : PlH w' bg g o cap R C :=
  ⟨cell_keeps hb k1 h.box, fun i hi => by
    obtain ⟨a, c, e⟩ := h.rows i hi
    exact ⟨a, c, cell_keeps hb k2 e⟩, h.R1, h.R10, h.C10⟩
set_option maxHeartbeats 3200000 in
theorem places_seq (n bg g o cap R C : Nat) (Kb : Nat → Prop) (w : World) (h : PlH w bg g o cap R C) (k1 : Kb bg) (k2 : Kb g) : SeqK n Try.prog 59 #[.pointer (some ⟨bg, 0, none⟩)] (fun x => #[encP x]) Kb (plAll R C) w := by
  intro l J Jx W hW lowJ lowJx hY h0
  have hP0 := Lib.hid (h.below hW)
  have hR1 := h.R10
  have hC1 := h.C10
  have hY' := Lib.hid hY
  have hJ0 : Hid (J (plTo C 0 0) W) := Lib.hid (by rw [plTo_zero]; exact h0)
  have c00 := hP0.out.box
  clear hY h0 lowJ lowJx h hW
  have hk1 := Lib.hid k1
  have hk2 := Lib.hid k2
  clear k1 k2
  refine callsIn_of_wp Try.func59 rfl trivial ?_ rfl
  simp only [Try.ntmps59, List.size_toArray, List.length_cons, List.length_nil, Nat.reduceAdd, Nat.reduceSub, Array.replicate_succ, Array.replicate_zero, List.push_toArray, List.append_toArray, List.nil_append, List.cons_append]
  gi_wp2_with fail
  gi_loopw [7] (fun i wr => ∃ k : Nat, k ≤ R ∧ i = .int .i64 k ∧ Hid (J (plTo C k 0) wr) ∧ Hid (PlH wr bg g o cap R C)) (fun i _ => R - (intOf i).toNat)
  case atStart => exact ⟨0, by omega, rfl, hJ0, hP0⟩
  case round =>
    obtain ⟨k, hk, rfl, hJ, hP⟩ := hrel
    by_cases hlt : k < R
    · have c0 := hP.out.box
      obtain ⟨a, cc, c1⟩ := hP.out.rows k hlt
      have hkI : (k : Int) < (R : Int) := by omega
      clear c00
      gi_wp2_with fail
      gi_loopw [15] (fun j wr => ∃ m : Nat, m ≤ C ∧ j = .int .i64 m ∧ Hid (J (plTo C k m) wr) ∧ Hid (PlH wr bg g o cap R C)) (fun j _ => C - (intOf j).toNat)
      case atStart => exact ⟨0, by omega, rfl, hJ, hP⟩
      case round =>
        obtain ⟨m, hm, rfl, hJm, hPm⟩ := hrel
        by_cases hlm : m < C
        · have hpre : plTo C k m ++ [(k, m)] <+: plAll R C := by
            rw [← plTo_next]
            by_cases hc : m + 1 = C
            · rw [hc, plTo_row]; exact plTo_pre (by omega) (by omega) (fun _ => rfl)
            · exact plTo_pre (by omega) (by omega) (by omega)
          obtain ⟨fn, tmps, assign, body, hy, hR⟩ := hY'.out (plTo C k m) (k, m) wr hpre hJm.out
          have hy' : (Instr.yield l #[.agg #[.int .i64 (k : Int), .int .i64 (m : Int)]]).run Try.prog wr = .ok (.round l fn tmps assign body) wr := hy
          have hpre' := Lib.hid hpre
          clear hy c0 c1 hpre
          gi_wp2
          refine ⟨fun h => (by cases h), hR.mono ?_⟩
          clear hR hy'
          rintro e W2 (⟨rfl, hJ2, hk3⟩ | ⟨rfl, hJx2⟩)
          · have hP2 := Lib.hid (hPm.out.keeps hk1.out hk2.out hk3)
            have hJ3 : Hid (J (plTo C k (m + 1)) W2) := Lib.hid (by rw [plTo_next]; exact hJ2)
            clear hk3 hJ2
            gi_wp2
            go_roundw
            case rel => exact ⟨m + 1, by omega, by go_num, hJ3, hP2⟩
            case measure => simp [intOf]; omega
          · gi_wp2
            refine bodyPost_ret (results_none rfl _ _ _) rfl ?_
            exact ⟨⟨_, rfl⟩, .inr ⟨_, hpre'.out, hJx2⟩⟩
        · have hmC : m = C := by omega
          have hJ3 : Hid (J (plTo C (k + 1) 0) wr) := Lib.hid (by have := hJm.out; rw [hmC, plTo_row] at this; exact this)
          clear hmC hJm c0 c1
          gi_wp2
          go_roundw
          case rel => exact ⟨k + 1, by omega, by go_num, hJ3, hPm⟩
          case measure => simp [intOf]; omega
    · have hkR : k = R := by omega
      have hJ3 : Hid (J (plAll R C) wr) := Lib.hid (by have := hJ.out; rw [hkR] at this; exact this)
      clear hkR hJ
      gi_wp2
      go_end0
      exact ⟨⟨_, rfl⟩, .inl hJ3.out⟩
theorem places_any (a : Option Addr) (n c : Nat) (w : World) : Calls Try.prog 49 #[.slice a n c] w fun e w' => e = .returned (.func (.func 59) #[] #[.pointer (some ⟨w.heap.size, 0, none⟩)]) ∧ w' = w.alloc (.cells #[.slice a n c] 62) := by
  go_enter Try.func49, Try.ntmps49
  go_wp2
  go_ret
  exact ⟨rfl, rfl⟩
theorem at_any (g o cap R C : Nat) (rg ro rc : Nat → Nat) (h : Nat → Nat → Int) (w : World) (x : GR w g o cap R C rg ro rc h) (i k : Nat) (hi : i < R) (hk : k < C) : Calls Try.prog 50 #[.slice (some ⟨g, o, none⟩) R cap, encP (i, k)] w fun e w' => e = .returned (.int .i64 (h i k)) ∧ Below w.heap.size w w' := by
  have c1 := x.top i hi
  have c2 := x.cel i hi k hk
  have l1 := x.gl
  have l2 := x.rl i hi
  have b1 := x.R10
  have b2 := x.C10
  obtain ⟨a, ha⟩ : ∃ a, a = rg i := ⟨_, rfl⟩
  obtain ⟨b, hb⟩ : ∃ b, b = ro i := ⟨_, rfl⟩
  obtain ⟨d, hd⟩ : ∃ d, d = rc i := ⟨_, rfl⟩
  obtain ⟨z, hz⟩ : ∃ z, z = h i k := ⟨_, rfl⟩
  rw [← ha, ← hb, ← hd] at c1
  rw [← ha, ← hb, ← hz] at c2
  rw [← ha] at l2
  rw [← hz]
  clear ha hb hd hz x
  unfold encP
  have hiI : (i : Int) < (R : Int) := by omega
  have hkI : (k : Int) < (C : Int) := by omega
  go_enter Try.func50, Try.ntmps50
  go_wp2_with fail
  have k0 := cellB (heap_alloc_new w (.cells #[.int .i64 (i : Int), .int .i64 (k : Int)] 57)) 0 _ rfl
  have k1 := cellB (heap_alloc_new w (.cells #[.int .i64 (i : Int), .int .i64 (k : Int)] 57)) 1 _ rfl
  have hB : Below w.heap.size w (w.alloc (.cells #[.int .i64 (i : Int), .int .i64 (k : Int)] 57)) := (Below.refl _ _).alloc (Nat.le_refl _) _
  replace c1 := (hB.cell (p := ⟨g, o + i, none⟩) l1).trans c1
  replace c2 := (hB.cell (p := ⟨a, b + k, none⟩) l2).trans c2
  have hB' := Lib.hid hB
  generalize w.alloc (.cells #[.int .i64 (i : Int), .int .i64 (k : Int)] 57) = W0 at k0 k1 c1 c2 hB' ⊢
  clear hB l1 l2
  go_quiet (fail)
  go_wp2
  go_ret
  exact ⟨rfl, belowN hB'.out _⟩
end Go.Proofs.Ytmppaimcejcoiaa
