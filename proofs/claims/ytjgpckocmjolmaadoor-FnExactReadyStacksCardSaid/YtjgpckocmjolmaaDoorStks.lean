/-
  Rows of Stack: what a walk is told of one, and the law's own copies.
-/
import Derived.Test.YtjgpckocmjolmaaDoorStkIn
namespace Go.Proofs.YtjgpckocmjolmaaDoor
open Go.ChangeShapes Go.WideShapes Go.ChangeAt Go.RowKit Go.Deep
set_option linter.unusedVariables false
set_option linter.unusedSimpArgs false
set_option maxRecDepth 1000000
def Stk.cells (x : Stk) : List Value := [.string x.id, .int .i64 x.moi, .int .i64 x.thk, .int .i64 x.sin]
theorem stkAt_of {w : World} {g o : Nat} {x : Stk} (h : w.rangeAt g o x.cells) : StkAt w g o x :=
  ⟨by simpa using h 0 _ rfl, h 1 _ rfl, h 2 _ rfl, h 3 _ rfl⟩
/-- v reads as the structs Z -/
def StksAt (w : World) (v : Value) (Z : List Stk) : Prop :=
  ∃ a cap, v = .slice a Z.length cap ∧ Z.length ≤ cap ∧ (∀ x ∈ Z, x.id.size ≤ maxLen) ∧ (Z = [] ∨ ∃ g o, a = some ⟨g, o, none⟩ ∧ g < w.heap.size ∧ ∀ i (hi : i < Z.length), w.rangeAt g (o + i * 4) Z[i].cells)
theorem StksAt.below {w w' : World} {v : Value} {Z : List Stk} (h : StksAt w v Z) (hb : Below w.heap.size w w') : StksAt w' v Z := by
  obtain ⟨a, cap, h1, h2, h3, h4⟩ := h
  refine ⟨a, cap, h1, h2, h3, ?_⟩
  rcases h4 with h4 | ⟨g, o, e, hg, hc⟩
  · exact Or.inl h4
  · exact Or.inr ⟨g, o, e, Nat.lt_of_lt_of_le hg hb.size, fun i hi => range_below (hc i hi) hg hb⟩
/-- what the walk is told of an argument -/
def StksV (w : World) (v : Value) : Prop := ∃ Z, StksAt w v Z ∧ Z.length ≤ maxLen
set_option maxRecDepth 1000000 in
theorem stks_open {H : Type} {enc : TypeId × Value → H} {w : World} {base : Nat} {spare : Nat → Bool} {held : Bool} {r : Reach} {b0 : Nat} {v : Value} {d : DataW H} {p : List MemPlace} (hv : Value.okWide Tryd.prog w r b0 22 v) (h : DataW.Trod enc Tryd.prog w base spare held 22 v d p) : StksV w v := by
  obtain ⟨a, len, cap, rfl⟩ := okWide_slice Tryd.underlying22 hv
  obtain ⟨fuel, hf⟩ := h
  rcases open_slice Tryd.underlying22 hf with ⟨hcs, _⟩ | ⟨x, l, c, m, n, D, Pl, hcs, _, hl, hm, hmm, _, hi⟩
  · simp [Value.cells] at hcs
    obtain ⟨rfl, rfl, rfl⟩ := hcs
    exact ⟨[], ⟨none, 0, rfl, Nat.le_refl 0, fun x hx => (by cases hx), Or.inl rfl⟩, Nat.zero_le _⟩
  · simp [Value.cells] at hcs
    obtain ⟨rfl, rfl, rfl⟩ := hcs
    have hC : Tryd.prog.cellsOf 36 = 4 := by kernel_rfl
    rw [hC] at hi
    have hlm : len ≤ m := by rw [hmm]; split <;> omega
    have key : ∀ i, ∃ x1 : Stk, i < len → (∀ j v, x1.cells[j]? = some v → w.cell? ((x.add (i * 4)).add j) = some v) ∧ (x1.id.size ≤ maxLen) := by
      intro i
      by_cases hlt : i < len
      · obtain ⟨cs', hc, ht⟩ := hi i (by omega)
        obtain ⟨_, hlen, hat⟩ := World.cells?_some hc
        obtain ⟨s1, a1, b1, c1, e, hs1⟩ := stk_cells ht hlen
        refine ⟨⟨s1, a1, b1, c1⟩, fun _ => ⟨fun j v hv => ?_, hs1⟩⟩
        have hj : j < 4 := by have := (List.getElem?_eq_some_iff.1 hv).1; simpa [Stk.cells] using this
        rw [hat j hj, e]; exact hv
      · exact ⟨⟨ByteArray.empty, 0, 0, 0⟩, fun h => absurd h hlt⟩
    obtain ⟨f, hfx⟩ := Classical.axiomOfChoice key
    have hZl : ((List.range len).map f).length = len := by simp
    refine ⟨(List.range len).map f, ⟨some x, cap, by rw [hZl], by rw [hZl]; exact hl, ?_, ?_⟩, by rw [hZl]; exact Nat.le_trans hl hm⟩
    · intro y hy
      obtain ⟨i, hi1, rfl⟩ := List.mem_map.1 hy
      exact (hfx i (List.mem_range.1 hi1)).2
    · by_cases h0 : len = 0
      · left; subst h0; rfl
      · right
        obtain ⟨b, off, spot⟩ := x
        have hc := (hfx 0 (by omega)).1 0 _ rfl
        have hspot : spot = none := by simpa [Addr.add] using World.cell?_spot hc
        subst hspot
        refine ⟨b, off, rfl, World.block_lt_of_cell? w _ (by have := hc; simpa [Addr.add] using this), fun i hi j v hv => ?_⟩
        have hil : i < len := by rw [hZl] at hi; exact hi
        have := (hfx i hil).1 j v (by simpa using hv)
        rwa [add_plain, add_plain] at this
/-- how much room is left: if any, all texts are short -/
def SzStkRet (Z : List Stk) (w : World) (e : Ending) (w' : World) : Prop := ∃ n : Int, e = .returned (.int .i64 n) ∧ -1 ≤ n ∧ n ≤ 1048576 ∧ (0 ≤ n → Z.length ≤ 1048576 ∧ ∀ x ∈ Z, x.id.size ≤ 1048576) ∧ Below w.heap.size w w'
set_option maxHeartbeats 1600000 in
theorem szStackS_any (v : Value) (Z : List Stk) (w : World) (hlen : Z.length ≤ maxLen) (hv : StksAt w v Z) : Calls Tryd.prog 4 #[v, .int .i64 1048576] w (SzStkRet Z w) := by
  unfold maxLen at hlen
  obtain ⟨a, cap, rfl, hcap, hids, hread⟩ := hv
  have hread' := Lib.hid hread
  have hids' := Lib.hid hids
  clear hread hids
  by_cases hL : Z.length ≤ 1048576
  rotate_left
  · go_enter Tryd.func4, Tryd.ntmps4
    go_wp2
    go_ret
    exact ⟨_, rfl, by omega, by omega, fun h => by omega, Below.refl _ _⟩
  go_enter Tryd.func4, Tryd.ntmps4
  go_wp2
  go_loopw [1, 5] (fun l i wr => ∃ (k : Nat) (n : Int), k ≤ Z.length ∧ i = .int .i64 k ∧ l = .int .i64 n ∧ 0 ≤ n ∧ n ≤ 1048576 ∧ Hid (∀ x ∈ Z.take k, x.id.size ≤ 1048576) ∧ Below w.heap.size w wr) (fun _ i _ => Z.length - (intOf i).toNat)
  case atStart => exact ⟨0, _, by omega, rfl, rfl, by omega, by omega, Lib.hid (by simp), Below.refl _ _⟩
  case round =>
    obtain ⟨k, n, hk, rfl, rfl, hn0, hn1, hall, hb⟩ := hrel
    by_cases hlt : k < Z.length
    · rcases hread'.out with h | ⟨g, o, rfl, hg, hc⟩
      · subst h; simp at hlt
      obtain ⟨x, hx⟩ : ∃ x, x = Z[k] := ⟨_, rfl⟩
      have hr := range_below (hc k hlt) hg hb
      rw [← hx] at hr
      have hxs : x.id.size ≤ maxLen := by rw [hx]; exact hids'.out _ (List.getElem_mem hlt)
      have hnew : (x.id.size : Int) ≤ 1048576 → Hid (∀ y ∈ Z.take (k + 1), y.id.size ≤ 1048576) := fun hle0 => Lib.hid (by
        intro y hy
        rw [List.take_succ_eq_append_getElem hlt, List.mem_append] at hy
        rcases hy with hy | hy
        · exact hall.out y hy
        · simp at hy; rw [hy, ← hx]; omega)
      obtain ⟨s, a, b, c⟩ := x
      simp only at hxs hnew
      have hnew' := Lib.hid hnew
      have hx' := Lib.hid hx
      clear hx hc hnew
      by_cases hsz : (s.size : Int) ≤ n
      · go_wp2_with (first
          | (refine wpList_load_mid rfl _ _ rfl g (o + k * 4) rfl _ _ hr Tryd.underlying36 rfl rfl ?_)
          | (go_at_call 13; refine (szStack_yes _ _ _ _ _ (by omega) (by omega) (by omega) _).mono ?_; rintro e w2 ⟨rfl, b2⟩))
        go_roundw
        case rel => exact ⟨k + 1, n - s.size, by omega, by go_num, rfl, by omega, by omega, hnew'.out (by omega), below2 hb b2⟩
        case measure => simp [intOf]; omega
      · go_wp2_with (first
          | (refine wpList_load_mid rfl _ _ rfl g (o + k * 4) rfl _ _ hr Tryd.underlying36 rfl rfl ?_)
          | (go_at_call 13; refine (szStack_no _ _ _ _ _ (by omega) (by omega) (by omega) (by omega) _).mono ?_; rintro e w2 ⟨rfl, b2⟩))
        go_ret
        exact ⟨_, rfl, by omega, by omega, fun h => by omega, below2 hb b2⟩
    · have hkl : k = Z.length := by omega
      have hall2 : Hid (∀ x ∈ Z, x.id.size ≤ 1048576) := Lib.hid (by have := hall.out; rw [hkl, List.take_length] at this; exact this)
      clear hkl
      go_wp2
      go_ret
      exact ⟨_, rfl, by omega, by omega, fun _ => ⟨hL, hall2.out⟩, hb⟩
end Go.Proofs.YtjgpckocmjolmaaDoor
