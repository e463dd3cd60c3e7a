/-
  Texts that stand together: Draw, Ints, RowMath, Mem, AllW, IntRow, Col.
-/
import Derived.WalkKit
import Derived.ProofKit
import Derived.OpenShut
import Derived.Lib.Hide
import Derived.OneCell
import Derived.Deep.Fields
import Derived.Deep.Slices
import Derived.Deep.MidRow
import Derived.ChangeSame
import Derived.ChangeAgain
import Derived.OwnWalk
import Derived.BigQuiet
import Derived.Deep.QuietTactic
import Derived.Deep.RegionHeld3
import Derived.Deep.LoopGhost
import Derived.Deep.Draws
import Derived.Below
import Derived.BigRegion
import Derived.Test.YtgfhjcbmilaegaaGreatDoorMg1
namespace Go.Proofs.YtgfhjcbmilaegaaGreatDoor
open Go.ChangeShapes Go.WideShapes Go.ChangeAt Go.RowKit
set_option linter.unusedVariables false
set_option linter.unusedSimpArgs false
theorem SrcAt.below {w w' : World} {b n : Nat} {v : Value} (h : SrcAt w b v n) (hb : Below w.heap.size w w') : SrcAt w' b v n := by
  obtain ⟨h0, c0, c1, ⟨s, c2⟩, z1, z2⟩ := h
  have e := hb.block b h0
  refine ⟨Nat.lt_of_lt_of_le h0 hb.size, (cell_block e).trans c0, (cell_block e).trans c1, ⟨s, (cell_block e).trans c2⟩, ?_, ?_⟩
  · rw [← z1]; simp only [World.frozen?, e]
  · rw [← z2]; simp only [World.frozen?, e]
set_option maxHeartbeats 1600000 in
set_option maxRecDepth 1000000 in
theorem pickS_any (lim : Int) (h1 : 1 < lim) (h2 : lim ≤ 200) (b B n : Nat) (v : Value) (Z : List Int) (w : World) (hB : B ≤ b) (hn : n ≤ 90) (hZ : Z.length ≤ 1048576) (hs : SrcAt w b v n) (hu : U8Old B w v Z) :
    Calls Tryz.prog 47 #[.pointer (some ⟨b, 0, none⟩), .int .i64 lim] w (SrcRet lim b B v Z (n + 1) w) := by
  have q1 := Lib.hid (next_any b B n v Z w hB (by omega) hZ hs hu)
  clear hs hu
  have d1 : decide (lim ≤ 1) = false := by simp; omega
  have d2 : decide (200 < lim) = false := by simp; omega
  go_enter Tryz.func47, Tryz.ntmps47
  go_wp2_with fail
  refine q1.out.mono ?_
  rintro e w1 ⟨r1, rfl, a1, b1, s1, u1, g1⟩
  have q4 := Lib.hid (And.intro s1 (And.intro u1 g1))
  clear s1 u1 g1
  go_wp2
  have hm : 0 ≤ r1 % lim ∧ r1 % lim < lim := ⟨Int.emod_nonneg _ (by omega), Int.emod_lt_of_pos _ (by omega)⟩
  go_ret
  exact ⟨_, rfl, hm.1, hm.2, q4.out.1, q4.out.2.1, q4.out.2.2⟩
/-- what a question leaves -/
def OneRet (b B : Nat) (v : Value) (Z : List Int) (n : Nat) (w : World) (e : Ending) (w' : World) : Prop :=
  ∃ t : Bool, e = .returned (.bool t) ∧ SrcAt w' b v n ∧ U8Old B w' v Z ∧ w.grownBy w' (some b)
/-- what a choice among numbers leaves -/
def AmRet (L : List Int) (b B : Nat) (v : Value) (Z : List Int) (n : Nat) (w : World) (e : Ending) (w' : World) : Prop :=
  ∃ r : Int, e = .returned (.int .i64 r) ∧ r ∈ L ∧ SrcAt w' b v n ∧ U8Old B w' v Z ∧ w.grownBy w' (some b)
/-- what a drawn number leaves -/
def NumRet (lo hi : Int) (b B : Nat) (v : Value) (Z : List Int) (n : Nat) (w : World) (e : Ending) (w' : World) : Prop :=
  ∃ (r : Int) (m : Nat), e = .returned (.int .i64 r) ∧ lo ≤ r ∧ r ≤ hi ∧ m ≤ n ∧ SrcAt w' b v m ∧ U8Old B w' v Z ∧ w.grownBy w' (some b)
theorem from_any (v : Value) (Z : List Int) (w : World) (hu : U8Old w.heap.size w v Z) :
    Hid (Calls Tryz.prog 21 #[v] w fun e w' => ∃ b, e = .returned (.pointer (some ⟨b, 0, none⟩)) ∧ w.heap.size ≤ b ∧ SrcAt w' b v 0 ∧ U8Old w.heap.size w' v Z ∧ Below w.heap.size w w') :=
  Lib.hid ((l00From_any v Z w hu).mono fun e w' h => ⟨w.heap.size, h.1, Nat.le_refl _, h.2⟩)
end Go.Proofs.YtgfhjcbmilaegaaGreatDoor
namespace Go.Proofs.YtgfhjcbmilaegaaGreatDoor
open Go.ChangeShapes Go.WideShapes Go.ChangeAt Go.RowKit
set_option linter.unusedVariables false
set_option linter.unusedSimpArgs false

theorem infoI : (Tryz.prog.info? 2).map (fun i => (i.zero, i.size, i.bytes)) = some (some (.int .i64 0), 1, 8) := by kernel_rfl
def encI (n : Int) : Value := .int .i64 n
def inI (n : Int) : Prop := -9223372036854775808 ≤ n ∧ n ≤ 9223372036854775807
/-- v reads as the numbers Z -/
def IntsAt (w : World) (v : Value) (Z : List Int) : Prop :=
  ∃ a cap, v = .slice a Z.length cap ∧ Z.length ≤ cap ∧ (∀ n ∈ Z, inI n) ∧
    (Z = [] ∨ ∃ g o, a = some ⟨g, o, none⟩ ∧ g < w.heap.size ∧ ∀ i (hi : i < Z.length), w.cell? ⟨g, o + i, none⟩ = some (.int .i64 Z[i]))
theorem IntsAt.below {w w' : World} {v : Value} {Z : List Int} (h : IntsAt w v Z) (hb : Below w.heap.size w w') : IntsAt w' v Z := by
  obtain ⟨a, cap, h1, h2, h3, h4⟩ := h
  refine ⟨a, cap, h1, h2, h3, ?_⟩
  rcases h4 with h4 | ⟨g, o, e, hg, hc⟩
  · exact Or.inl h4
  · exact Or.inr ⟨g, o, e, Nat.lt_of_lt_of_le hg hb.size, fun i hi => (hb.cell (p := ⟨g, o + i, none⟩) hg).trans (hc i hi)⟩
theorem IntsAt.drewN {w : World} {v : Value} {Z : List Int} (h : IntsAt w v Z) (n : Nat) : IntsAt (w.drewN n) v Z := h
/-- an owned row reads so -/
theorem ints_own {w : World} {B : Nat} {v : Value} {Z : List Int} (h : w.ownsRow B 2 1 v Z.length (Z.map encI)) (hz : ∀ n ∈ Z, inI n) : IntsAt w v Z := by
  have h0 := h
  rcases h.2 with ⟨h1, h2⟩ | ⟨g, cap, cur, hv, hg, hb, hn, hcap, _, _⟩
  · have hZ : Z = [] := List.eq_nil_of_length_eq_zero h2
    subst hZ
    exact ⟨none, 0, h1, Nat.le_refl 0, hz, Or.inl rfl⟩
  · subst hv
    refine ⟨_, cap, rfl, hn, hz, Or.inr ⟨g, 0, rfl, (h0.lt g rfl).2, fun i hi => ?_⟩⟩
    rw [Nat.zero_add, h0.cellAt i (by omega)]
    simp [encI, List.getElem?_eq_getElem hi]
/-- .. as one that came in -/
theorem ints_in {w : World} {a : Option Addr} {len cap : Nat} {zs : List Int}
    (h : (a = none ∧ len = 0 ∧ cap = 0 ∧ zs = []) ∨ ∃ x, a = some x ∧ len ≤ cap ∧ cap ≤ maxLen ∧ zs.length = cap ∧ (∀ i, i < zs.length → w.cell? (x.add i) = some (.int .i64 (zs.getD i 0))) ∧ ∀ n ∈ zs, (Lit.int .i64 n).wf = true) :
    ∃ Z : List Int, IntsAt w (.slice a len cap) Z ∧ Z.length = len := by
  rcases h with ⟨rfl, rfl, rfl, rfl⟩ | ⟨x, rfl, hl, hm, hz, hcell, hwz⟩
  · exact ⟨[], ⟨none, 0, rfl, Nat.le_refl 0, (fun n hn => (by cases hn)), Or.inl rfl⟩, rfl⟩
  · refine ⟨zs.take len, ⟨some x, cap, by rw [List.length_take]; congr 1; omega, by rw [List.length_take]; omega, fun n hn => ?_, ?_⟩, by rw [List.length_take]; omega⟩
    · have := bounds_i64 (hwz n (List.mem_of_mem_take hn)); exact this
    · by_cases h0 : len = 0
      · left; subst h0; simp
      · right
        obtain ⟨b, off, spot⟩ := x
        have hc := hcell 0 (by omega)
        have hspot : spot = none := by simpa [Addr.add] using World.cell?_spot hc
        subst hspot
        refine ⟨b, off, rfl, World.block_lt_of_cell? w _ (by have := hc; simpa [Addr.add] using this), fun i hi => ?_⟩
        have hi2 : i < zs.length := by rw [List.length_take] at hi; omega
        have := hcell i hi2
        rw [add_plain] at this
        rw [this]
        simp [List.getD, List.getElem?_eq_getElem hi2]

/-- a new row, k numbers of which are laid -/
def fillI (Z : List Int) (k : Nat) : List Value := (Z.take k).map encI ++ List.replicate (Z.length - k) (.int .i64 0)
theorem fillI_zero (Z : List Int) : fillI Z 0 = List.replicate Z.length (.int .i64 0) := by simp [fillI]
theorem fillI_all (Z : List Int) : fillI Z Z.length = Z.map encI := by simp [fillI]
theorem fillI_len (Z : List Int) (k : Nat) (h : k ≤ Z.length) : (fillI Z k).length = Z.length := by simp [fillI]; omega
theorem fillI_set (Z : List Int) (k : Nat) (h : k < Z.length) : (fillI Z k).set k (.int .i64 Z[k]) = fillI Z (k + 1) := by
  unfold fillI
  have e : List.replicate (Z.length - k) (Value.int .i64 0) = Value.int .i64 0 :: List.replicate (Z.length - (k + 1)) (.int .i64 0) := by
    rw [show Z.length - k = (Z.length - (k + 1)) + 1 by omega, List.replicate_succ]
  have hl : ((Z.take k).map encI).length = k := by simp; omega
  rw [e, List.set_append_right _ _ (by rw [hl]; exact Nat.le_refl _), hl, Nat.sub_self, List.set_cons_zero, List.take_succ_eq_append_getElem h, List.map_append, List.append_assoc]
  rfl
def RowI (Z : List Int) (w : World) (e : Ending) (w' : World) : Prop :=
  ∃ v, e = .returned v ∧ w'.ownsRow w.heap.size 2 1 v Z.length (Z.map encI) ∧ Below w.heap.size w w'

end Go.Proofs.YtgfhjcbmilaegaaGreatDoor
namespace Go.Proofs.YtgfhjcbmilaegaaGreatDoor
open Go
/-- p holds of all numbers below k -/
def allK (p : Nat → Bool) : Nat → Bool
  | 0 => true
  | k + 1 => allK p k && p k
theorem allK_iff (p : Nat → Bool) : ∀ n, allK p n = true ↔ ∀ i, i < n → p i = true
  | 0 => ⟨fun _ i hi => absurd hi (Nat.not_lt_zero i), fun _ => rfl⟩
  | n + 1 => by
    unfold allK
    rw [Bool.and_eq_true, allK_iff p n]
    constructor
    · rintro ⟨h1, h2⟩ i hi
      rcases Nat.lt_or_ge i n with h | h
      · exact h1 i h
      · rw [show i = n by omega]; exact h2
    · exact fun h => ⟨fun i hi => h i (by omega), h n (by omega)⟩
theorem allK_no {p : Nat → Bool} {k n : Nat} (h : p k = false) (hk : k < n) : allK p n = false := by
  cases e : allK p n
  · rfl
  · have := (allK_iff p n).1 e k hk
    rw [h] at this; exact absurd this (by decide)
theorem allK_yes {p : Nat → Bool} {k : Nat} (h : allK p k = true) (hs : p k = true) : allK p (k + 1) = true := by unfold allK; rw [h, hs]; rfl
theorem getD_of {α : Type} {Z : List α} {k : Nat} (d : α) (h : k < Z.length) : Z.getD k d = Z[k] := by rw [List.getD_eq_getElem?_getD, List.getElem?_eq_getElem h]; rfl
end Go.Proofs.YtgfhjcbmilaegaaGreatDoor
namespace Go.Proofs.YtgfhjcbmilaegaaGreatDoor
open Go.ChangeShapes Go.WideShapes Go.ChangeAt Go.RowKit Go.Deep
set_option linter.unusedVariables false
set_option linter.unusedSimpArgs false
theorem cellB {w : World} {b : Nat} {cs : Array Value} {t : TypeId} (h : w.heap[b]? = some (.cells cs t (0, 0))) (i : Nat) (v : Value) (hv : cs[i]? = some v) : w.cell? ⟨b, i, none⟩ = some v := by rw [cell_of_row w b i cs t (0, 0) h, hv]
theorem freeB {w : World} {b : Nat} {cs : Array Value} {t : TypeId} (h : w.heap[b]? = some (.cells cs t (0, 0))) (i : Nat) : w.frozen? ⟨b, i, none⟩ = false := by simp [World.frozen?, h]
theorem bcell {W w1 : World} (hb : Below W.heap.size W w1) : ∀ b o, b < W.heap.size → w1.cell? ⟨b, o, none⟩ = W.cell? ⟨b, o, none⟩ :=
  fun b o h => hb.cell (p := ⟨b, o, none⟩) h
theorem below2 {w a b : World} (h1 : Below w.heap.size w a) (h2 : Below a.heap.size a b) : Below w.heap.size w b := h1.trans (h2.mono h1.size)
theorem range_below {w w' : World} {g o : Nat} {cs : List Value} (h : w.rangeAt g o cs) (hg : g < w.heap.size) (hb : Below w.heap.size w w') : w'.rangeAt g o cs :=
  fun j v hv => (hb.cell (p := ⟨g, o + j, none⟩) hg).trans (h j v hv)
theorem below_sets {B b : Nat} {a : World} (hb : B ≤ b) : ∀ (vs : List Value) (o : Nat) (w : World), Below B a w → Below B a (w.setCells b o vs)
  | [], _, _, h => h
  | v :: r, o, w, h => below_sets hb r (o + 1) _ (h.setCell hb v)
theorem there_below {w w' : World} {b o n : Nat} (h : w.there b o n) (hb : b < w.heap.size) (hw : Below w.heap.size w w') : w'.there b o n :=
  fun j hj => ⟨by rw [hw.cell (p := ⟨b, o + j, none⟩) hb]; exact (h j hj).1, by rw [hw.frozen (p := ⟨b, o + j, none⟩) hb]; exact (h j hj).2⟩
theorem there_part {w : World} {b n : Nat} (h : w.there b 0 n) (o m : Nat) (hm : o + m ≤ n) : w.there b o m :=
  fun j hj => by have := h (o + j) (by omega); simpa using this
theorem there_own {w : World} {B : Nat} {e : TypeId} {g n cap size : Nat} {xs : List Value} (h : w.ownsRow B e size (.slice (some ⟨g, 0, none⟩) n cap) n xs) : w.there g 0 (n * size) := by
  rcases h.2 with ⟨h1, _⟩ | ⟨g', cap', cur, hv, hg, hb, hn, hcap, hs, _⟩
  · cases h1
  · injection hv with e1 e2 e3
    have e4 : g = g' := by have := Option.some.inj e1; injection this
    subst e4
    intro j hj
    have hle : n * size ≤ cap' * size := Nat.mul_le_mul_right _ hn
    refine ⟨?_, by simp [World.frozen?, hb]⟩
    rw [Nat.zero_add, cell_of_row w g j cur e (0, 0) hb, Array.getElem?_eq_getElem (by omega)]; rfl
theorem size_sets (b : Nat) : ∀ (vs : List Value) (o : Nat) (w : World), (w.setCells b o vs).heap.size = w.heap.size
  | [], _, _ => rfl
  | v :: r, o, w => by show ((w.setCell ⟨b, o, none⟩ v).setCells b (o + 1) r).heap.size = _; rw [size_sets b r]; simp
def DrewOf (w w' : World) : Prop := ∃ q, w' = w.drewN q
theorem DrewOf.refl (w : World) : DrewOf w w := ⟨0, rfl⟩
theorem DrewOf.more {w w' : World} (h : DrewOf w w') (n : Nat) : DrewOf w (w'.drewN n) := by obtain ⟨q, rfl⟩ := h; exact ⟨q + n, by rw [World.drewN_drewN]⟩
theorem DrewOf.range {w w' : World} (h : DrewOf w w') {g o : Nat} {cs : List Value} (hr : w.rangeAt g o cs) : w'.rangeAt g o cs := by obtain ⟨q, rfl⟩ := h; exact hr
theorem DrewOf.below {w w' : World} (h : DrewOf w w') : Below w.heap.size w w' := by obtain ⟨q, rfl⟩ := h; exact belowN (Below.refl _ _) q
theorem DrewOf.cell {w w' : World} (h : DrewOf w w') (p : Addr) : w'.cell? p = w.cell? p := by obtain ⟨q, rfl⟩ := h; rfl
theorem DrewOf.trans {a b c : World} (h : DrewOf a b) (k : DrewOf b c) : DrewOf a c := by
  obtain ⟨q, rfl⟩ := h
  obtain ⟨r, rfl⟩ := k
  exact ⟨q + r, by simp only [World.drewN_drewN]⟩
end Go.Proofs.YtgfhjcbmilaegaaGreatDoor
namespace Go.Proofs.YtgfhjcbmilaegaaGreatDoor
open Go.ChangeShapes Go.WideShapes Go.ChangeAt Go.RowKit Go.Deep
set_option linter.unusedVariables false
set_option linter.unusedSimpArgs false
set_option maxRecDepth 1000000
/-- number i lies within the bounds, and whether all do -/
def wAt (Z : List Int) (lo hi : Int) (i : Nat) : Bool := inB (Z.getD i 0) lo hi
def allI (Z : List Int) (lo hi : Int) : Bool := allK (wAt Z lo hi) Z.length
theorem allI_iff {Z : List Int} {lo hi : Int} : allI Z lo hi = true ↔ ∀ n ∈ Z, lo ≤ n ∧ n ≤ hi := by
  unfold allI
  rw [allK_iff]
  constructor
  · intro h n hn
    obtain ⟨i, hi, rfl⟩ := List.mem_iff_getElem.1 hn
    have := inB_iff.1 (h i hi)
    rwa [getD_of _ hi] at this
  · intro h i hi
    unfold wAt
    rw [getD_of _ hi]
    exact inB_iff.2 (h _ (List.getElem_mem hi))
theorem withinN_any (n lo hi : Int) (w : World) : Calls Tryz.prog 66 #[.int .i64 n, .int .i64 lo, .int .i64 hi] w fun e w' => e = .returned (.bool (inB n lo hi)) ∧ w = w' := by
  by_cases h1 : lo ≤ n
  · by_cases h2 : n ≤ hi
    · go_enter Tryz.func66, Tryz.ntmps66
      go_wp2
      go_ret
      exact ⟨ret_bool (by unfold inB; rw [decide_eq_true h1, decide_eq_true h2]; rfl), rfl⟩
    · go_enter Tryz.func66, Tryz.ntmps66
      go_wp2
      go_ret
      exact ⟨ret_bool (by unfold inB; rw [decide_eq_true h1, decide_eq_false (by omega), Bool.and_false]), rfl⟩
  · go_enter Tryz.func66, Tryz.ntmps66
    go_wp2
    go_ret
    exact ⟨ret_bool (by unfold inB; rw [decide_eq_false (by omega)]; rfl), rfl⟩
theorem allW1_any (n lo hi : Int) (p q : Nat) (w : World) (hp : w.cell? ⟨p, 0, none⟩ = some (.int .i64 lo)) (hq : w.cell? ⟨q, 0, none⟩ = some (.int .i64 hi)) : Calls Tryz.prog 65 #[.int .i64 n, .pointer (some ⟨p, 0, none⟩), .pointer (some ⟨q, 0, none⟩)] w fun e w' => e = .returned (.bool (!inB n lo hi)) ∧ Below w.heap.size w w' := by
  cases h : inB n lo hi
  all_goals
    have cW := fun W => within64_any n lo hi W
    rw [h] at cW
    go_enter Tryz.func65, Tryz.ntmps65
    go_wp2_with (go_at_call 40; (with_reducible refine (cW _).mono ?_); rintro e w' ⟨rfl, rfl⟩)
    go_ret
    exact ⟨rfl, Below.refl _ _⟩
theorem rowcell {w wr : World} {g o : Nat} {H : List Int} (hb : Below w.heap.size w wr) (hg : g < w.heap.size) (hc : ∀ i (hi : i < H.length), w.cell? ⟨g, o + i, none⟩ = some (.int .i64 H[i])) {k : Nat} (hk : k < H.length) : wr.cell? ⟨g, o + k, none⟩ = some (.int .i64 (H.getD k 0)) := by
  rw [getD_of _ hk]; exact (hb.cell (p := ⟨g, o + k, none⟩) hg).trans (hc k hk)
set_option maxHeartbeats 1600000 in
theorem indexW_any (v : Value) (H : List Int) (lo hi : Int) (p q : Nat) (w : World) (hn : H.length ≤ maxLen) (hv : IntsAt w v H) (hpl : p < w.heap.size) (hql : q < w.heap.size) (hp : w.cell? ⟨p, 0, none⟩ = some (.int .i64 lo)) (hq : w.cell? ⟨q, 0, none⟩ = some (.int .i64 hi)) :
    Calls Tryz.prog 80 #[v, .func (Fn.func 65) #[] #[.pointer (some ⟨p, 0, none⟩), .pointer (some ⟨q, 0, none⟩)]] w fun e w' => ∃ n : Int, e = .returned (.int .i64 n) ∧ decide (0 ≤ n) = !(allI H lo hi) ∧ Below w.heap.size w w' := by
  unfold maxLen at hn
  obtain ⟨a0, cap, rfl, hcap, hids, hread⟩ := hv
  have hread' := Lib.hid hread
  have hall0 : Hid (allI H lo hi = allK (wAt H lo hi) H.length) := Lib.hid rfl
  have hpq := Lib.hid (And.intro hp hq)
  clear hread hids hp hq
  go_enter Tryz.func80, Tryz.ntmps80
  go_wp2
  go_loopw [8] (fun i wr => ∃ k : Nat, k ≤ H.length ∧ i = .int .i64 k ∧ Hid (allK (wAt H lo hi) k = true) ∧ Hid (Below w.heap.size w wr)) (fun i _ => H.length - (intOf i).toNat)
  case atStart => exact ⟨0, by omega, rfl, Lib.hid rfl, Lib.hid (Below.refl _ _)⟩
  case round =>
    obtain ⟨k, hk, rfl, hall, hbel⟩ := hrel
    by_cases hlt : k < H.length
    · rcases hread'.out with h | ⟨g, o, rfl, hg, hc⟩
      · subst h; simp at hlt
      have hltI : (k : Int) < (H.length : Int) := by omega
      have c0 := rowcell hbel.out hg hc hlt
      have hst : Hid (wAt H lo hi k = inB (H.getD k 0) lo hi) := Lib.hid rfl
      obtain ⟨x, hx⟩ : ∃ x, x = H.getD k 0 := ⟨_, rfl⟩
      rw [← hx] at c0 hst
      have cT := Lib.hid (allW1_any x lo hi p q wr ((bcell hbel.out _ _ hpl).trans hpq.out.1) ((bcell hbel.out _ _ hql).trans hpq.out.2))
      clear hx hc
      cases hcmp : inB x lo hi
      · rw [hcmp] at cT hst
        have hno : Hid (allI H lo hi = false) := Lib.hid (hall0.out.trans (allK_no hst.out hlt))
        go_wp2_with (go_at_call 65; (with_reducible refine cT.out.mono ?_); rintro e w2 ⟨rfl, b2⟩)
        go_ret
        exact ⟨_, rfl, by rw [hno.out, decide_eq_true (by omega)]; rfl, below2 hbel.out b2⟩
      · rw [hcmp] at cT hst
        have hall2 : Hid (allK (wAt H lo hi) (k + 1) = true) := Lib.hid (allK_yes hall.out hst.out)
        go_wp2_with (go_at_call 65; (with_reducible refine cT.out.mono ?_); rintro e w2 ⟨rfl, b2⟩)
        go_roundw
        case rel => exact ⟨k + 1, by omega, by go_num, hall2, Lib.hid (below2 hbel.out b2)⟩
        case measure => simp [intOf]; omega
    · have hkl : k = H.length := by omega
      have hall2 : Hid (allI H lo hi = true) := Lib.hid (hall0.out.trans (by have h9 := hall.out; rw [hkl] at h9; exact h9))
      clear hkl
      go_wp2
      go_ret
      exact ⟨_, rfl, by rw [hall2.out]; rfl, hbel.out⟩
theorem containsW_any (v : Value) (H : List Int) (lo hi : Int) (p q : Nat) (w : World) (hn : H.length ≤ maxLen) (hv : IntsAt w v H) (hpl : p < w.heap.size) (hql : q < w.heap.size) (hp : w.cell? ⟨p, 0, none⟩ = some (.int .i64 lo)) (hq : w.cell? ⟨q, 0, none⟩ = some (.int .i64 hi)) :
    Calls Tryz.prog 64 #[v, .func (Fn.func 65) #[] #[.pointer (some ⟨p, 0, none⟩), .pointer (some ⟨q, 0, none⟩)]] w fun e w' => e = .returned (.bool (!(allI H lo hi))) ∧ Below w.heap.size w w' := by
  have cI := Lib.hid (indexW_any v H lo hi p q w hn hv hpl hql hp hq)
  obtain ⟨a0, cap, rfl, hcap, hids, hread⟩ := hv
  clear hread hids hp hq
  go_enter Tryz.func64, Tryz.ntmps64
  go_wp2_with (go_at_call 80; (with_reducible refine cI.out.mono ?_); rintro e w2 ⟨n, rfl, hd, b2⟩)
  go_ret
  exact ⟨ret_bool (by first | rfl | exact hd), b2⟩
set_option maxHeartbeats 1600000 in
theorem allWithin_any (v : Value) (H : List Int) (lo hi : Int) (w : World) (hn : H.length ≤ maxLen) (hv : IntsAt w v H) : Calls Tryz.prog 49 #[v, .int .i64 lo, .int .i64 hi] w fun e w' => e = .returned (.bool (allI H lo hi)) ∧ Below w.heap.size w w' := by
  obtain ⟨W, hW⟩ : ∃ W, W = (w.alloc (.cells #[.int .i64 lo] 2)).alloc (.cells #[.int .i64 hi] 2) := ⟨_, rfl⟩
  have hb0 : Below w.heap.size w W := by rw [hW]; exact ((Below.refl _ _).alloc (Nat.le_refl _) _).alloc (by simp) _
  have hvW := hv.below hb0
  have hs : W.heap.size = w.heap.size + 2 := by rw [hW]; simp
  have k1 : W.cell? ⟨w.heap.size, 0, none⟩ = some (.int .i64 lo) := by
    rw [hW]
    have hb : Below (w.alloc (.cells #[.int .i64 lo] 2)).heap.size (w.alloc (.cells #[.int .i64 lo] 2)) ((w.alloc (.cells #[.int .i64 lo] 2)).alloc (.cells #[.int .i64 hi] 2)) := (Below.refl _ _).alloc (Nat.le_refl _) _
    exact (bcell hb _ _ (by simp)).trans (cellB (heap_alloc_new _ _) 0 _ rfl)
  have k2 : W.cell? ⟨w.heap.size + 1, 0, none⟩ = some (.int .i64 hi) := by
    rw [hW, show w.heap.size + 1 = (w.alloc (.cells #[.int .i64 lo] 2)).heap.size by simp]
    exact cellB (heap_alloc_new _ _) 0 _ rfl
  have cC := Lib.hid (containsW_any v H lo hi w.heap.size (w.heap.size + 1) W hn hvW (by omega) (by omega) k1 k2)
  rw [hW] at cC
  have hb1 := Lib.hid hb0
  rw [hW] at hb1
  obtain ⟨q, hq⟩ : ∃ q, q = allI H lo hi := ⟨_, rfl⟩
  rw [← hq] at cC ⊢
  clear k1 k2 hs hvW hb0 hW hv hq
  cases q
  all_goals
    go_enter Tryz.func49, Tryz.ntmps49
    go_wp2_with (go_at_call 64; (with_reducible refine cC.out.mono ?_); rintro e w2 ⟨rfl, b2⟩)
    go_ret
    exact ⟨rfl, hb1.out.trans (b2.mono hb1.out.size)⟩
end Go.Proofs.YtgfhjcbmilaegaaGreatDoor
namespace Go.Proofs.YtgfhjcbmilaegaaGreatDoor
open Go.ChangeShapes Go.WideShapes Go.ChangeAt Go.RowKit
set_option linter.unusedVariables false
set_option linter.unusedSimpArgs false
theorem rowI_start (w : World) : (w.alloc (.cells #[] 2)).ownsRow w.heap.size 2 1 (.slice (some ⟨w.heap.size, 0, none⟩) 0 0) ([] : List Int).length (([] : List Int).map encI) :=
  ⟨rfl, Or.inr ⟨w.heap.size, 0, #[], rfl, Nat.le_refl _, heap_alloc_new _ _, Nat.le_refl 0, by unfold maxLen; omega, rfl, rfl⟩⟩
/-- a row of numbers whose first j are marks, k0 and on -/
def markI (Z : List Int) (k0 j : Nat) : List Int := (List.range j).map (fun i => ((k0 + i : Nat) : Int)) ++ Z.drop j
theorem markI_zero (Z : List Int) (k0 : Nat) : markI Z k0 0 = Z := by simp [markI]
theorem markI_len (Z : List Int) (k0 j : Nat) (h : j ≤ Z.length) : (markI Z k0 j).length = Z.length := by simp [markI]; omega
theorem markI_all (Z : List Int) (k0 : Nat) : markI Z k0 Z.length = (List.range Z.length).map (fun i => ((k0 + i : Nat) : Int)) := by simp [markI]
theorem markI_set (Z : List Int) (k0 j : Nat) (h : j < Z.length) : ((markI Z k0 j).map encI).set j (.int .i64 ((k0 + j : Nat) : Int)) = (markI Z k0 (j + 1)).map encI := by
  unfold markI
  have e : (Z.drop j) = Z[j] :: Z.drop (j + 1) := by rw [List.drop_eq_getElem_cons h]
  rw [List.map_append, List.map_append, List.set_append_right _ _ (by simp), List.range_succ, List.map_append, List.map_append, List.append_assoc]
  congr 1
  simp only [List.length_map, List.length_range, Nat.sub_self]
  rw [e, List.map_cons, List.set_cons_zero]
  rfl

theorem own_low {w : World} {B B' e size n : Nat} {v : Value} {xs : List Value} (h : w.ownsRow B e size v n xs) (hB : B' ≤ B) : w.ownsRow B' e size v n xs := by
  refine ⟨h.1, ?_⟩
  rcases h.2 with h1 | ⟨g, cap, cur, hv, hg, r⟩
  · exact Or.inl h1
  · exact Or.inr ⟨g, cap, cur, hv, Nat.le_trans hB hg, r⟩
end Go.Proofs.YtgfhjcbmilaegaaGreatDoor
namespace Go.Proofs.YtgfhjcbmilaegaaGreatDoor
open Go.ChangeShapes Go.WideShapes Go.ChangeAt Go.RowKit Go.Deep
set_option linter.unusedVariables false
set_option linter.unusedSimpArgs false
set_option maxRecDepth 1000000
def absC (p q : Int) : Int := if q < p then p - q else q - p
theorem absC_bd {p q : Int} {M : Int} (h0 : 0 ≤ p ∧ p ≤ M) (h1 : 0 ≤ q ∧ q ≤ M) : 0 ≤ absC p q ∧ absC p q ≤ M := by unfold absC; split <;> omega
theorem distC_any (p q : Int) (h0 : 0 ≤ p ∧ p ≤ 255) (h1 : 0 ≤ q ∧ q ≤ 255) (w : World) : Calls Tryz.prog 50 #[.int .i64 p, .int .i64 q] w fun e w' => e = .returned (.int .i64 (absC p q)) ∧ w = w' := by
  have e1 : IntKind.i64.wrap (p - q) = p - q := IntWalk.i64_in _ (by omega)
  have e2 : IntKind.i64.wrap (q - p) = q - p := IntWalk.i64_in _ (by omega)
  go_enter Tryz.func50, Tryz.ntmps50
  go_wp2
  all_goals go_ret
  all_goals exact ⟨ret_int (by unfold absC; split <;> omega), rfl⟩
theorem l03AbsC_any (p q : Int) (h0 : 0 ≤ p ∧ p ≤ 255) (h1 : 0 ≤ q ∧ q ≤ 255) (w : World) : Calls Tryz.prog 60 #[.int .i64 p, .int .i64 q] w fun e w' => e = .returned (.int .i64 (absC p q)) ∧ w = w' := by
  by_cases h : p < q
  all_goals
    go_enter Tryz.func60, Tryz.ntmps60
    go_wp2
    all_goals go_ret
    all_goals exact ⟨ret_int (by unfold absC; split <;> omega), rfl⟩
/-- a row is a colour -/
def colB (Z : List Int) : Bool := decide (Z.length = 3) && allI Z 0 255
theorem colB_iff {Z : List Int} (h : colB Z = true) : ∃ a b c : Int, Z = [a, b, c] ∧ (0 ≤ a ∧ a ≤ 255) ∧ (0 ≤ b ∧ b ≤ 255) ∧ (0 ≤ c ∧ c ≤ 255) := by
  unfold colB at h
  obtain ⟨h1, h2⟩ := Bool.and_eq_true_iff.1 h
  have h3 := of_decide_eq_true h1
  have h4 := allI_iff.1 h2
  match Z, h3 with
  | [a, b, c], _ => exact ⟨a, b, c, rfl, h4 a (by simp), h4 b (by simp), h4 c (by simp)⟩
theorem isColour_any (v : Value) (Z : List Int) (w : World) (hn : Z.length ≤ maxLen) (hv : IntsAt w v Z) : Calls Tryz.prog 24 #[v] w fun e w' => e = .returned (.bool (colB Z)) ∧ Below w.heap.size w w' := by
  have cA := Lib.hid (allWithin_any v Z 0 255 w hn hv)
  have hx : Hid (colB Z = (decide (Z.length = 3) && allI Z 0 255)) := Lib.hid rfl
  obtain ⟨q, hq⟩ : ∃ q, q = allI Z 0 255 := ⟨_, rfl⟩
  rw [← hq] at cA hx
  unfold maxLen at hn
  obtain ⟨a0, cap, rfl, _, _, _⟩ := hv
  clear hq
  by_cases h3 : Z.length = 3
  · rw [h3] at cA
    rw [h3]
    have hx2 : Hid (colB Z = (true && q)) := Lib.hid (by rw [hx.out, h3]; rfl)
    clear h3 hx hn
    cases q
    all_goals
      go_enter Tryz.func24, Tryz.ntmps24
      go_wp2_with (go_at_call 49; (with_reducible refine cA.out.mono ?_); rintro e w2 ⟨rfl, b2⟩)
      go_ret
      exact ⟨ret_bool (by rw [hx2.out]; rfl), b2⟩
  · have h3I : ¬((Z.length : Int) = 3) := by omega
    go_enter Tryz.func24, Tryz.ntmps24
    go_wp2
    go_ret
    exact ⟨ret_bool (by rw [hx.out]; simp [h3]), Below.refl _ _⟩
set_option maxHeartbeats 1600000 in
theorem l13Colour_any (v : Value) (Z : List Int) (w : World) (hn : Z.length ≤ maxLen) (hv : IntsAt w v Z) : Calls Tryz.prog 41 #[v] w fun e w' => e = .returned (.bool (colB Z)) ∧ w = w' := by
  have hx : Hid (colB Z = (decide (Z.length = 3) && allK (wAt Z 0 255) Z.length)) := Lib.hid rfl
  unfold maxLen at hn
  obtain ⟨a0, cap, rfl, hcap, hids, hread⟩ := hv
  have hread' := Lib.hid hread
  clear hread hids
  go_enter Tryz.func41, Tryz.ntmps41
  go_wp2
  go_loopw [3] (fun i wr => ∃ k : Nat, k ≤ Z.length ∧ i = .int .i64 k ∧ Hid (allK (wAt Z 0 255) k = true) ∧ wr = w) (fun i _ => Z.length - (intOf i).toNat)
  case atStart => exact ⟨0, by omega, rfl, Lib.hid rfl, rfl⟩
  case round =>
    obtain ⟨k, hk, rfl, hall, rfl⟩ := hrel
    by_cases hlt : k < Z.length
    · rcases hread'.out with h | ⟨g, o, rfl, hg, hc⟩
      · subst h; simp at hlt
      have hltI : (k : Int) < (Z.length : Int) := by omega
      have c0 := rowcell (Below.refl _ _) hg hc hlt
      have hst : Hid (wAt Z 0 255 k = inB (Z.getD k 0) 0 255) := Lib.hid rfl
      obtain ⟨x, hx'⟩ : ∃ x, x = Z.getD k 0 := ⟨_, rfl⟩
      rw [← hx'] at c0 hst
      have cT := fun W => l00In_any x 0 255 W
      clear hx' hc
      cases hcmp : inB x 0 255
      · rw [hcmp] at cT hst
        have hno : Hid (colB Z = false) := Lib.hid (by rw [hx.out, allK_no hst.out hlt, Bool.and_false])
        go_wp2_with (go_at_call 59; (with_reducible refine (cT _).mono ?_); rintro e w2 ⟨rfl, rfl⟩)
        go_ret
        exact ⟨ret_bool hno.out.symm, rfl⟩
      · rw [hcmp] at cT hst
        have hall2 : Hid (allK (wAt Z 0 255) (k + 1) = true) := Lib.hid (allK_yes hall.out hst.out)
        go_wp2_with (go_at_call 59; (with_reducible refine (cT _).mono ?_); rintro e w2 ⟨rfl, rfl⟩)
        go_roundw
        case rel => exact ⟨k + 1, by omega, by go_num, hall2, trivial⟩
        case measure => simp [intOf]; omega
    · have hkl : k = Z.length := by omega
      have hfin : Hid (colB Z = decide (Z.length = 3)) := Lib.hid (by have h9 := hall.out; rw [hkl] at h9; rw [hx.out, h9, Bool.and_true])
      clear hkl
      have hd : decide ((Z.length : Int) = 3) = decide (Z.length = 3) := decide_eq_decide.2 (by omega)
      go_wp2
      go_ret
      exact ⟨ret_bool (by rw [hfin.out]; trace_state; first | rfl | exact hd), rfl⟩
/-- the gap of two colours -/
def gap3 (a b c a' b' c' : Int) : Int := absC a a' + absC b b' + absC c c'
theorem two_boxC (w : World) (cs : Array Value) (T : TypeId) (cs' : Array Value) (T' : TypeId) : (∀ i v, cs[i]? = some v → ((w.alloc (.cells cs T)).alloc (.cells cs' T')).cell? ⟨w.heap.size, i, none⟩ = some v) ∧ (∀ i v, cs'[i]? = some v → ((w.alloc (.cells cs T)).alloc (.cells cs' T')).cell? ⟨w.heap.size + 1, i, none⟩ = some v) ∧ Below w.heap.size w ((w.alloc (.cells cs T)).alloc (.cells cs' T')) ∧ w.heap.size + 1 < ((w.alloc (.cells cs T)).alloc (.cells cs' T')).heap.size := by
  have e : (w.alloc (.cells cs T)).heap.size = w.heap.size + 1 := by simp
  have h1 := fun i v h => ((Below.refl (w.alloc (.cells cs T)).heap.size (w.alloc (.cells cs T))).alloc (Nat.le_refl _) (.cells cs' T')).cell (p := ⟨w.heap.size, i, none⟩) (by simp) |>.trans (cellB (heap_alloc_new w (.cells cs T)) i v h)
  have h2 := fun i v h => cellB (heap_alloc_new (w.alloc (.cells cs T)) (.cells cs' T')) i v h
  rw [e] at h2
  exact ⟨h1, h2, ((Below.refl _ _).alloc (Nat.le_refl _) _).alloc (by simp) _, by simp⟩
set_option maxHeartbeats 1600000 in
theorem gapTo_any (a b c a' b' c' : Int) (ha : 0 ≤ a ∧ a ≤ 255) (hb : 0 ≤ b ∧ b ≤ 255) (hc : 0 ≤ c ∧ c ≤ 255) (ha' : 0 ≤ a' ∧ a' ≤ 255) (hb' : 0 ≤ b' ∧ b' ≤ 255) (hc' : 0 ≤ c' ∧ c' ≤ 255) (w : World) : Calls Tryz.prog 27 #[.agg #[.int .i64 a, .int .i64 b, .int .i64 c], .agg #[.int .i64 a', .int .i64 b', .int .i64 c']] w fun e w' => e = .returned (.int .i64 (gap3 a b c a' b' c')) ∧ Below w.heap.size w w' := by
  have hz : Hid (gap3 a b c a' b' c' = absC a a' + absC b b' + absC c c') := Lib.hid rfl
  obtain ⟨x, hx⟩ : ∃ x, x = absC a a' := ⟨_, rfl⟩
  obtain ⟨y, hy⟩ : ∃ y, y = absC b b' := ⟨_, rfl⟩
  obtain ⟨z, hz0⟩ : ∃ z, z = absC c c' := ⟨_, rfl⟩
  have bx := absC_bd ha ha'
  have by' := absC_bd hb hb'
  have bz := absC_bd hc hc'
  have cX := fun W => distC_any a a' ha ha' W
  have cY := fun W => distC_any b b' hb hb' W
  have cZ := fun W => distC_any c c' hc hc' W
  rw [← hx] at bx cX hz
  rw [← hy] at by' cY hz
  rw [← hz0] at bz cZ hz
  have cX' := Lib.hid cX
  have cY' := Lib.hid cY
  have cZ' := Lib.hid cZ
  clear hx hy hz0 cX cY cZ
  go_enter Tryz.func27, Tryz.ntmps27
  go_wp2
  obtain ⟨q1, q2, hB0, hsz⟩ := two_boxC w #[.int .i64 a, .int .i64 b, .int .i64 c] 52 #[.int .i64 a', .int .i64 b', .int .i64 c'] 52
  generalize (w.alloc (.cells #[.int .i64 a, .int .i64 b, .int .i64 c] 52)).alloc (.cells #[.int .i64 a', .int .i64 b', .int .i64 c'] 52) = W0 at q1 q2 hB0 hsz ⊢
  have c0 := q1 0 _ rfl
  have c1 := q1 1 _ rfl
  have c2 := q1 2 _ rfl
  have d0 := q2 0 _ rfl
  have d1 := q2 1 _ rfl
  have d2 := q2 2 _ rfl
  clear q1 q2
  go_loopw [5, 7] (fun s i wr => DrewOf W0 wr ∧ ((i = .int .i64 0 ∧ s = .int .i64 0) ∨ (i = .int .i64 1 ∧ s = .int .i64 x) ∨ (i = .int .i64 2 ∧ s = .int .i64 (x + y)) ∨ (i = .int .i64 3 ∧ s = .int .i64 (x + y + z)))) (fun _ i _ => 3 - (intOf i).toNat)
  case atStart => exact ⟨DrewOf.refl _, Or.inl ⟨rfl, rfl⟩⟩
  case round =>
    obtain ⟨hd, hcase⟩ := hrel
    replace c0 := (hd.cell _).trans c0
    replace c1 := (hd.cell _).trans c1
    replace c2 := (hd.cell _).trans c2
    replace d0 := (hd.cell _).trans d0
    replace d1 := (hd.cell _).trans d1
    replace d2 := (hd.cell _).trans d2
    rcases hcase with ⟨rfl, rfl⟩ | ⟨rfl, rfl⟩ | ⟨rfl, rfl⟩ | ⟨rfl, rfl⟩
    · go_wp2
      go_quiet ((go_at_call 50; with_reducible exact Qs (cX'.out _)))
      go_wp2
      go_roundw
      case rel => exact ⟨hd.more _, Or.inr (Or.inl ⟨rfl, by go_num⟩)⟩
      case measure => simp [intOf]
    · go_wp2
      go_quiet ((go_at_call 50; with_reducible exact Qs (cY'.out _)))
      go_wp2
      go_roundw
      case rel => exact ⟨hd.more _, Or.inr (Or.inr (Or.inl ⟨rfl, rfl⟩))⟩
      case measure => simp [intOf]
    · go_wp2
      go_quiet ((go_at_call 50; with_reducible exact Qs (cZ'.out _)))
      go_wp2
      go_roundw
      case rel => exact ⟨hd.more _, Or.inr (Or.inr (Or.inr ⟨rfl, rfl⟩))⟩
      case measure => simp [intOf]
    · go_wp2
      go_ret
      exact ⟨ret_int hz.out.symm, hB0.trans (hd.below.mono hB0.size)⟩
set_option maxHeartbeats 1600000 in
theorem l13Gap_any (v v' : Value) (a b c a' b' c' : Int) (ha : 0 ≤ a ∧ a ≤ 255) (hb : 0 ≤ b ∧ b ≤ 255) (hc : 0 ≤ c ∧ c ≤ 255) (ha' : 0 ≤ a' ∧ a' ≤ 255) (hb' : 0 ≤ b' ∧ b' ≤ 255) (hc' : 0 ≤ c' ∧ c' ≤ 255) (w : World) (h1 : IntsAt w v [a, b, c]) (h2 : IntsAt w v' [a', b', c']) : Calls Tryz.prog 42 #[v, v'] w fun e w' => e = .returned (.int .i64 (gap3 a b c a' b' c')) ∧ DrewOf w w' := by
  have hz : Hid (gap3 a b c a' b' c' = absC a a' + absC b b' + absC c c') := Lib.hid rfl
  obtain ⟨x, hx⟩ : ∃ x, x = absC a a' := ⟨_, rfl⟩
  obtain ⟨y, hy⟩ : ∃ y, y = absC b b' := ⟨_, rfl⟩
  obtain ⟨z, hz0⟩ : ∃ z, z = absC c c' := ⟨_, rfl⟩
  have bx := absC_bd ha ha'
  have by' := absC_bd hb hb'
  have bz := absC_bd hc hc'
  have cX := fun W => l03AbsC_any a a' ha ha' W
  have cY := fun W => l03AbsC_any b b' hb hb' W
  have cZ := fun W => l03AbsC_any c c' hc hc' W
  rw [← hx] at bx cX hz
  rw [← hy] at by' cY hz
  rw [← hz0] at bz cZ hz
  have cX' := Lib.hid cX
  have cY' := Lib.hid cY
  have cZ' := Lib.hid cZ
  clear hx hy hz0 cX cY cZ
  obtain ⟨p, cap, rfl, hcap, _, hread⟩ := h1
  obtain ⟨p', cap', rfl, hcap', _, hread'⟩ := h2
  rcases hread with h | ⟨g, o, rfl, hg, hcl⟩
  · cases h
  rcases hread' with h | ⟨g', o', rfl, hg', hcl'⟩
  · cases h
  have c0 : w.cell? ⟨g, o, none⟩ = some (.int .i64 a) := hcl 0 (by simp)
  have c1 : w.cell? ⟨g, o + 1, none⟩ = some (.int .i64 b) := hcl 1 (by simp)
  have c2 : w.cell? ⟨g, o + 2, none⟩ = some (.int .i64 c) := hcl 2 (by simp)
  have d0 : w.cell? ⟨g', o', none⟩ = some (.int .i64 a') := hcl' 0 (by simp)
  have d1 : w.cell? ⟨g', o' + 1, none⟩ = some (.int .i64 b') := hcl' 1 (by simp)
  have d2 : w.cell? ⟨g', o' + 2, none⟩ = some (.int .i64 c') := hcl' 2 (by simp)
  clear hcl hcl'
  go_enter Tryz.func42, Tryz.ntmps42
  go_wp2
  go_loopw [5, 6] (fun s i wr => DrewOf w wr ∧ ((i = .int .i64 0 ∧ s = .int .i64 0) ∨ (i = .int .i64 1 ∧ s = .int .i64 x) ∨ (i = .int .i64 2 ∧ s = .int .i64 (x + y)) ∨ (i = .int .i64 3 ∧ s = .int .i64 (x + y + z)))) (fun _ i _ => 3 - (intOf i).toNat)
  case atStart => exact ⟨DrewOf.refl _, Or.inl ⟨rfl, rfl⟩⟩
  case round =>
    obtain ⟨hd, hcase⟩ := hrel
    replace c0 := (hd.cell _).trans c0
    replace c1 := (hd.cell _).trans c1
    replace c2 := (hd.cell _).trans c2
    replace d0 := (hd.cell _).trans d0
    replace d1 := (hd.cell _).trans d1
    replace d2 := (hd.cell _).trans d2
    rcases hcase with ⟨rfl, rfl⟩ | ⟨rfl, rfl⟩ | ⟨rfl, rfl⟩ | ⟨rfl, rfl⟩
    · go_wp2
      go_quiet ((go_at_call 60; with_reducible exact Qs (cX'.out _)))
      go_wp2
      go_roundw
      case rel => exact ⟨hd.more _, Or.inr (Or.inl ⟨rfl, by go_num⟩)⟩
      case measure => simp [intOf]
    · go_wp2
      go_quiet ((go_at_call 60; with_reducible exact Qs (cY'.out _)))
      go_wp2
      go_roundw
      case rel => exact ⟨hd.more _, Or.inr (Or.inr (Or.inl ⟨rfl, rfl⟩))⟩
      case measure => simp [intOf]
    · go_wp2
      go_quiet ((go_at_call 60; with_reducible exact Qs (cZ'.out _)))
      go_wp2
      go_roundw
      case rel => exact ⟨hd.more _, Or.inr (Or.inr (Or.inr ⟨rfl, rfl⟩))⟩
      case measure => simp [intOf]
    · go_wp2
      go_ret
      exact ⟨ret_int hz.out.symm, hd⟩
end Go.Proofs.YtgfhjcbmilaegaaGreatDoor
