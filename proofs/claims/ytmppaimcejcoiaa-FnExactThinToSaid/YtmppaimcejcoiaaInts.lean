/-
  Rows of numbers: what a walk is told of one, and the law's own copies and comparisons.
-/
import Derived.Test.YtmppaimcejcoiaaSplit
namespace Go.Proofs.Ytmppaimcejcoiaa
open Go.ChangeShapes Go.WideShapes Go.ChangeAt Go.RowKit
set_option linter.unusedVariables false
set_option linter.unusedSimpArgs false

theorem infoI : (Try.prog.info? 2).map (fun i => (i.zero, i.size, i.bytes)) = some (some (.int .i64 0), 1, 8) := by kernel_rfl
def encI (n : Int) : Value := .int .i64 n
def inI (n : Int) : Prop := -9223372036854775808 ≤ n ∧ n ≤ 9223372036854775807
/-- v reads as the numbers Z -/
def IntsAt (w : World) (v : Value) (Z : List Int) : Prop :=
  ∃ a cap, v = .slice a Z.length cap ∧ Z.length ≤ cap ∧ (∀ n ∈ Z, inI n) ∧
    (Z = [] ∨ ∃ g o, a = some ⟨g, o, none⟩ ∧ g < w.heap.size ∧ ∀ i (hi : i < Z.length), w.cell? ⟨g, o + i, none⟩ = some (.int .i64 Z[i]))
theorem IntsAt.below {w w' : World} {v : Value} {Z : List Int} (h : IntsAt w v Z) (hb : Below w.heap.size w w') : IntsAt w' v Z := by
  obtain ⟨a, cap, h1, h2, h3, h4⟩ := h
  refine ⟨a, cap, h1, h2, h3, ?_⟩
  rcases h4 with h4 | ⟨g, o, e, hg, hc⟩
  · exact Or.inl h4
  · exact Or.inr ⟨g, o, e, Nat.lt_of_lt_of_le hg hb.size, fun i hi => (hb.cell (p := ⟨g, o + i, none⟩) hg).trans (hc i hi)⟩
theorem IntsAt.drewN {w : World} {v : Value} {Z : List Int} (h : IntsAt w v Z) (n : Nat) : IntsAt (w.drewN n) v Z := h
/-- an owned row reads so -/
theorem ints_own {w : World} {B : Nat} {v : Value} {Z : List Int} (h : w.ownsRow B 2 1 v Z.length (Z.map encI)) (hz : ∀ n ∈ Z, inI n) : IntsAt w v Z := by
  have h0 := h
  rcases h.2 with ⟨h1, h2⟩ | ⟨g, cap, cur, hv, hg, hb, hn, hcap, _, _⟩
  · have hZ : Z = [] := List.eq_nil_of_length_eq_zero h2
    subst hZ
    exact ⟨none, 0, h1, Nat.le_refl 0, hz, Or.inl rfl⟩
  · subst hv
    refine ⟨_, cap, rfl, hn, hz, Or.inr ⟨g, 0, rfl, (h0.lt g rfl).2, fun i hi => ?_⟩⟩
    rw [Nat.zero_add, h0.cellAt i (by omega)]
    simp [encI, List.getElem?_eq_getElem hi]
/-- .. as one that came in -/
theorem ints_in {w : World} {a : Option Addr} {len cap : Nat} {zs : List Int}
    (h : (a = none ∧ len = 0 ∧ cap = 0 ∧ zs = []) ∨ ∃ x, a = some x ∧ len ≤ cap ∧ cap ≤ maxLen ∧ zs.length = cap ∧ (∀ i, i < zs.length → w.cell? (x.add i) = some (.int .i64 (zs.getD i 0))) ∧ ∀ n ∈ zs, (Lit.int .i64 n).wf = true) :
    ∃ Z : List Int, IntsAt w (.slice a len cap) Z ∧ Z.length = len := by
  rcases h with ⟨rfl, rfl, rfl, rfl⟩ | ⟨x, rfl, hl, hm, hz, hcell, hwz⟩
  · exact ⟨[], ⟨none, 0, rfl, Nat.le_refl 0, (fun n hn => (by cases hn)), Or.inl rfl⟩, rfl⟩
  · refine ⟨zs.take len, ⟨some x, cap, by rw [List.length_take]; congr 1; omega, by rw [List.length_take]; omega, fun n hn => ?_, ?_⟩, by rw [List.length_take]; omega⟩
    · have := bounds_i64 (hwz n (List.mem_of_mem_take hn)); exact this
    · by_cases h0 : len = 0
      · left; subst h0; simp
      · right
        obtain ⟨b, off, spot⟩ := x
        have hc := hcell 0 (by omega)
        have hspot : spot = none := by simpa [Addr.add] using World.cell?_spot hc
        subst hspot
        refine ⟨b, off, rfl, World.block_lt_of_cell? w _ (by have := hc; simpa [Addr.add] using this), fun i hi => ?_⟩
        have hi2 : i < zs.length := by rw [List.length_take] at hi; omega
        have := hcell i hi2
        rw [add_plain] at this
        rw [this]
        simp [List.getD, List.getElem?_eq_getElem hi2]

/-- a new row, k numbers of which are laid -/
def fillI (Z : List Int) (k : Nat) : List Value := (Z.take k).map encI ++ List.replicate (Z.length - k) (.int .i64 0)
theorem fillI_zero (Z : List Int) : fillI Z 0 = List.replicate Z.length (.int .i64 0) := by simp [fillI]
theorem fillI_all (Z : List Int) : fillI Z Z.length = Z.map encI := by simp [fillI]
theorem fillI_len (Z : List Int) (k : Nat) (h : k ≤ Z.length) : (fillI Z k).length = Z.length := by simp [fillI]; omega
theorem fillI_set (Z : List Int) (k : Nat) (h : k < Z.length) : (fillI Z k).set k (.int .i64 Z[k]) = fillI Z (k + 1) := by
  unfold fillI
  have e : List.replicate (Z.length - k) (Value.int .i64 0) = Value.int .i64 0 :: List.replicate (Z.length - (k + 1)) (.int .i64 0) := by
    rw [show Z.length - k = (Z.length - (k + 1)) + 1 by omega, List.replicate_succ]
  have hl : ((Z.take k).map encI).length = k := by simp; omega
  rw [e, List.set_append_right _ _ (by rw [hl]; exact Nat.le_refl _), hl, Nat.sub_self, List.set_cons_zero, List.take_succ_eq_append_getElem h, List.map_append, List.append_assoc]
  rfl
def RowI (Z : List Int) (w : World) (e : Ending) (w' : World) : Prop :=
  ∃ v, e = .returned v ∧ w'.ownsRow w.heap.size 2 1 v Z.length (Z.map encI) ∧ Below w.heap.size w w'

set_option maxHeartbeats 1600000 in
theorem toInt64S_any (v : Value) (Z : List Int) (w : World) (hn : Z.length ≤ 1048576) (hv : IntsAt w v Z) :
    Calls Try.prog 27 #[v] w (RowI Z w) := by
  obtain ⟨i0, hi, hz0, hz1, hz2⟩ := info_parts infoI
  obtain ⟨a, cap, rfl, hcap, hzz, hread⟩ := hv
  have hread' := Lib.hid hread
  have hzz' := Lib.hid hzz
  clear hread hzz
  go_enter Try.func27, Try.ntmps27
  go_wp2_with (at_make; refine wpList_make_full _ rfl _ _ 36 rfl w.heap.size 2 i0 (.int .i64 0) 1 Try.underlying36 hi hz0 hz1 .i64 .i64 _ _ Z.length rfl rfl rfl rfl ?b1 ?b2 ?b3 ?_)
  case b1 => rw [hz2]; omega
  case b2 => unfold maxLen; omega
  case b3 => exact Nat.le_refl _
  intro w1 hown hgr
  rw [toList_madeCells_one, ← fillI_zero] at hown
  have hb1 : Below w.heap.size w w1 := (Below.refl _ _).grown hgr (Nat.le_refl _) (fun k hk => by cases hk)
  clear hgr
  go_wp2
  go_loopw [4] (fun i wr => ∃ k : Nat, k ≤ Z.length ∧ i = .int .i64 k ∧ wr.ownsRow w.heap.size 2 1 (.slice (some ⟨w.heap.size, 0, none⟩) Z.length Z.length) Z.length (fillI Z k) ∧ Below w.heap.size w wr) (fun i _ => Z.length - (intOf i).toNat)
  case atStart => exact ⟨0, by omega, rfl, hown, hb1⟩
  case round =>
    obtain ⟨k, hk, rfl, ho, hbel⟩ := hrel
    by_cases hlt : k < Z.length
    · rcases hread'.out with h | ⟨g, o, rfl, hg, hc⟩
      · subst h; simp at hlt
      · have hcx : wr.cell? ⟨g, o + k, none⟩ = some (.int .i64 Z[k]) := (hbel.cell (p := ⟨g, o + k, none⟩) hg).trans (hc k hlt)
        obtain ⟨z, hz⟩ : ∃ z, z = Z[k] := ⟨_, rfl⟩
        rw [← hz] at hcx
        obtain ⟨old, hold⟩ : ∃ old, (fillI Z k)[k]? = some old := ⟨_, List.getElem?_eq_getElem (by rw [fillI_len _ _ hk]; exact hlt)⟩
        have hco := (ho.cellAt k (by omega)).trans hold
        have hfo := ho.frozenAt k
        have hst := ho.stored k (.int .i64 z)
        rw [hz, fillI_set Z k hlt, ← hz] at hst
        have hst' := Lib.hid hst
        have ho' := Lib.hid ho
        clear hz hc hst ho hold
        go_wp2
        go_roundw
        case rel => exact ⟨k + 1, by omega, by go_num, hst'.out.1, hbel.grown hst'.out.2 hbel.size (fun j hj => by cases hj; exact Nat.le_refl _)⟩
        case measure => simp [intOf]; omega
    · have hks : k = Z.length := by omega
      have ho2 : Hid (wr.ownsRow w.heap.size 2 1 (.slice (some ⟨w.heap.size, 0, none⟩) Z.length Z.length) Z.length (Z.map encI)) := Lib.hid (by have h2 := ho; rw [hks, fillI_all] at h2; exact h2)
      clear hks ho
      go_wp2
      go_ret
      exact ⟨_, rfl, ho2.out, hbel⟩

theorem eqInt64S_any (v v' : Value) (Z : List Int) (w : World) (hn : Z.length ≤ 1048577) (h1 : IntsAt w v Z) (h2 : IntsAt w v' Z) :
    Calls Try.prog 36 #[v, v'] w fun e w' => e = .returned (.bool true) ∧ ∃ m, w' = w.drewN m := by
  obtain ⟨a, cap, rfl, hcap, _, hread⟩ := h1
  obtain ⟨a', cap', rfl, hcap', _, hread'⟩ := h2
  rcases hread with rfl | ⟨g, o, rfl, hg, hc⟩
  · go_enter Try.func36, Try.ntmps36
    go_wp2
    refine wp_loop_rounds 1 ?_
    rw [rounds_succ]
    go_wp2
    go_ret
    exact ⟨rfl, 0, rfl⟩
  rcases hread' with rfl | ⟨g', o', rfl, hg', hc'⟩
  · go_enter Try.func36, Try.ntmps36
    go_wp2
    refine wp_loop_rounds 1 ?_
    rw [rounds_succ]
    go_wp2
    go_ret
    exact ⟨rfl, 0, rfl⟩
  have h1' := Lib.hid hc
  have h2' := Lib.hid hc'
  clear hc hc'
  go_enter Try.func36, Try.ntmps36
  go_wp2
  go_loopw [5] (fun i wr => ∃ j q : Nat, j ≤ Z.length ∧ i = .int .i64 j ∧ wr = w.drewN q) (fun i _ => Z.length - (intOf i).toNat)
  case atStart => exact ⟨0, 0, by omega, rfl, rfl⟩
  case round =>
    obtain ⟨j, q, hj, rfl, rfl⟩ := hrel
    by_cases hlt : j < Z.length
    · obtain ⟨x, hx⟩ : ∃ x, x = Z[j] := ⟨_, rfl⟩
      have c1 : w.cell? ⟨g, o + j, none⟩ = some (.int .i64 x) := by rw [hx]; exact h1'.out j hlt
      have c2 : w.cell? ⟨g', o' + j, none⟩ = some (.int .i64 x) := by rw [hx]; exact h2'.out j hlt
      clear hx
      go_wp2
      go_quiet (fail)
      go_wp2
      go_roundw
      case rel => exact ⟨j + 1, _, by omega, by go_num, rfl⟩
      case measure => simp [intOf]; omega
    · go_wp2
      go_ret
      exact ⟨rfl, q, rfl⟩
end Go.Proofs.Ytmppaimcejcoiaa
