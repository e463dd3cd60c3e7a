/-
  Rows of rows of numbers (grids): what a walk is told of one, the law's own copies and comparisons.
-/
import Derived.Test.YtmppaimcejcoiaaMem
import Derived.Test.YtmppaimcejcoiaaIntRow
namespace Go.Proofs.Ytmppaimcejcoiaa
open Go.ChangeShapes Go.WideShapes Go.ChangeAt Go.RowKit Go.Deep
set_option linter.unusedVariables false
set_option linter.unusedSimpArgs false
set_option maxRecDepth 1000000
theorem infoG : (Try.prog.info? 36).map (fun i => (i.zero, i.size, i.bytes)) = some (some (.slice none 0 0), 1, 24) := by kernel_rfl
/-- v reads as the rows G -/
def GridAt (w : World) (v : Value) (G : List (List Int)) : Prop :=
  ∃ a cap, v = .slice a G.length cap ∧ G.length ≤ cap ∧ (G = [] ∨ ∃ g o, a = some ⟨g, o, none⟩ ∧ g < w.heap.size ∧ ∀ i (hi : i < G.length), ∃ u, w.cell? ⟨g, o + i, none⟩ = some u ∧ IntsAt w u G[i])
theorem GridAt.below {w w' : World} {v : Value} {G : List (List Int)} (h : GridAt w v G) (hb : Below w.heap.size w w') : GridAt w' v G := by
  obtain ⟨a, cap, h1, h2, h4⟩ := h
  refine ⟨a, cap, h1, h2, ?_⟩
  rcases h4 with h4 | ⟨g, o, e, hg, hc⟩
  · exact Or.inl h4
  · refine Or.inr ⟨g, o, e, Nat.lt_of_lt_of_le hg hb.size, fun i hi => ?_⟩
    obtain ⟨u, hu, hi2⟩ := hc i hi
    exact ⟨u, (hb.cell (p := ⟨g, o + i, none⟩) hg).trans hu, hi2.below hb⟩
/-- what the walk is told of an argument -/
def GridV (w : World) (v : Value) : Prop := ∃ G, GridAt w v G ∧ G.length ≤ maxLen ∧ ∀ Z ∈ G, Z.length ≤ maxLen
theorem ints_of {w : World} {x : Addr} {len cap : Nat} {zs : List Int} (hl : len ≤ cap) (hz : len ≤ zs.length) (hcell : ∀ i, i < zs.length → w.cell? (x.add i) = some (.int .i64 (zs.getD i 0))) (hwz : ∀ n ∈ zs, (Lit.int .i64 n).wf = true) : IntsAt w (.slice (some x) len cap) (zs.take len) := by
  refine ⟨some x, cap, by rw [List.length_take]; congr 1; omega, by rw [List.length_take]; omega, fun n hn => ?_, ?_⟩
  · have := bounds_i64 (hwz n (List.mem_of_mem_take hn)); exact this
  · by_cases h0 : len = 0
    · left; subst h0; simp
    · right
      obtain ⟨b, off, spot⟩ := x
      have hc := hcell 0 (by omega)
      have hspot : spot = none := by simpa [Addr.add] using World.cell?_spot hc
      subst hspot
      refine ⟨b, off, rfl, World.block_lt_of_cell? w _ (by have := hc; simpa [Addr.add] using this), fun i hi => ?_⟩
      have hi2 : i < zs.length := by rw [List.length_take] at hi; omega
      have := hcell i hi2
      rw [add_plain] at this
      rw [this]
      simp [List.getD, List.getElem?_eq_getElem hi2]
theorem grid_open {H : Type} {enc : TypeId × Value → H} {w : World} {base : Nat} {spare : Nat → Bool} {held : Bool} {r : Reach} {b0 : Nat} {v : Value} {d : DataW H} {p : List MemPlace} (hv : Value.okWide Try.prog w r b0 22 v) (h : DataW.Trod enc Try.prog w base spare held 22 v d p) : GridV w v := by
  obtain ⟨a, len, cap, rfl⟩ := okWide_slice Try.underlying22 hv
  obtain ⟨fuel, hf⟩ := h
  have hC : Try.prog.cellsOf 36 = 1 := by kernel_rfl
  have hC1 : Try.prog.cellsOf 2 = 1 := by kernel_rfl
  rcases open_slice1 Try.underlying22 hC hf with ⟨hcs, _⟩ | ⟨x, l, c, m, n, V, D, Pl, hcs, _, hl, hm, hmm, _, hi⟩
  · simp [Value.cells] at hcs
    obtain ⟨rfl, rfl, rfl⟩ := hcs
    exact ⟨[], ⟨none, 0, rfl, Nat.le_refl 0, Or.inl rfl⟩, Nat.zero_le _, fun x hx => (by cases hx)⟩
  · simp [Value.cells] at hcs
    obtain ⟨rfl, rfl, rfl⟩ := hcs
    have hlm : len ≤ m := by rw [hmm]; split <;> omega
    have key : ∀ i, ∃ Z : List Int, i < len → (w.cell? (x.add i) = some (V i) ∧ IntsAt w (V i) Z ∧ Z.length ≤ maxLen) := by
      intro i
      by_cases hlt : i < len
      · obtain ⟨hc, ht⟩ := hi i (by omega)
        rcases open_ints Try.underlying36 Try.underlying2 hC1 ht with ⟨hcs, _⟩ | ⟨a', len', cap', zs, hcs, _, hl', hm', hz, _, hcell, hwz⟩
        · simp at hcs
          exact ⟨[], fun _ => ⟨hc, by rw [hcs]; exact ⟨none, 0, rfl, Nat.le_refl 0, fun n hn => (by cases hn), Or.inl rfl⟩, Nat.zero_le _⟩⟩
        · simp at hcs
          have hz2 : len' ≤ zs.length := by rw [hz]; split <;> omega
          exact ⟨zs.take len', fun _ => ⟨hc, by rw [hcs]; exact ints_of hl' hz2 hcell hwz, by rw [List.length_take]; omega⟩⟩
      · exact ⟨[], fun h => absurd h hlt⟩
    obtain ⟨f, hfx⟩ := Classical.axiomOfChoice key
    have hZl : ((List.range len).map f).length = len := by simp
    refine ⟨(List.range len).map f, ⟨some x, cap, by rw [hZl], by rw [hZl]; exact hl, ?_⟩, by rw [hZl]; exact Nat.le_trans hl hm, ?_⟩
    · by_cases h0 : len = 0
      · left; subst h0; rfl
      · right
        obtain ⟨b, off, spot⟩ := x
        have hc := (hfx 0 (by omega)).1
        have hspot : spot = none := by simpa [Addr.add] using World.cell?_spot hc
        subst hspot
        refine ⟨b, off, rfl, World.block_lt_of_cell? w _ (by have := hc; simpa [Addr.add] using this), fun i hi => ?_⟩
        have hil : i < len := by rw [hZl] at hi; exact hi
        obtain ⟨h1, h2, _⟩ := hfx i hil
        refine ⟨V i, by rwa [add_plain] at h1, ?_⟩
        simpa using h2
    · intro y hy
      obtain ⟨i, hi1, rfl⟩ := List.mem_map.1 hy
      exact (hfx i (List.mem_range.1 hi1)).2.2
/-- how many numbers there are -/
def totL (G : List (List Int)) : Nat := (G.map List.length).sum
theorem totL_nil : totL [] = 0 := rfl
theorem totL_cons (Z : List Int) (G : List (List Int)) : totL (Z :: G) = Z.length + totL G := rfl
theorem totL_append (G H : List (List Int)) : totL (G ++ H) = totL G + totL H := by simp [totL]
theorem totL_take {G : List (List Int)} {k : Nat} (h : k < G.length) : totL (G.take (k + 1)) = totL (G.take k) + G[k].length := by
  rw [List.take_succ_eq_append_getElem h, totL_append]; rfl
theorem totL_ge {G : List (List Int)} {Z : List Int} (h : Z ∈ G) : Z.length ≤ totL G := by
  induction G with
  | nil => cases h
  | cons Y G ih =>
    rw [totL_cons]
    rcases List.mem_cons.1 h with rfl | h
    · omega
    · have := ih h; omega
theorem ints_len {w : World} {v : Value} {Z : List Int} (h : IntsAt w v Z) : ∃ a cap, v = .slice a Z.length cap := by obtain ⟨a, cap, h, _⟩ := h; exact ⟨a, cap, h⟩
theorem szInt64S_any (v : Value) (Z : List Int) (n : Int) (w : World) (hn0 : 0 ≤ n) (hn1 : n ≤ 1048576) (hZ : Z.length ≤ maxLen) (hv : IntsAt w v Z) : Calls Try.prog 20 #[v, .int .i64 n] w fun e w' => e = .returned (.int .i64 (if (Z.length : Int) ≤ n then n - Z.length else -1)) ∧ w' = w := by
  unfold maxLen at hZ
  obtain ⟨a, cap, rfl⟩ := ints_len hv
  clear hv
  by_cases h : (Z.length : Int) ≤ n
  · go_enter Try.func20, Try.ntmps20
    go_wp2
    go_ret
    exact ⟨rfl, rfl⟩
  · go_enter Try.func20, Try.ntmps20
    go_wp2
    go_ret
    exact ⟨rfl, rfl⟩
def SzGRet (G : List (List Int)) (w : World) (e : Ending) (w' : World) : Prop := ∃ n : Int, e = .returned (.int .i64 n) ∧ -1 ≤ n ∧ n ≤ 1048576 ∧ (0 ≤ n → G.length + totL G ≤ 1048576) ∧ w' = w
set_option maxHeartbeats 1600000 in
theorem szInt64SS_any (v : Value) (G : List (List Int)) (w : World) (hlen : G.length ≤ maxLen) (hrow : ∀ Z ∈ G, Z.length ≤ maxLen) (hv : GridAt w v G) : Calls Try.prog 7 #[v, .int .i64 1048576] w (SzGRet G w) := by
  unfold maxLen at hlen
  obtain ⟨a, cap, rfl, hcap, hread⟩ := hv
  have hread' := Lib.hid hread
  have hrow' := Lib.hid hrow
  clear hread hrow
  by_cases hL : G.length ≤ 1048576
  rotate_left
  · go_enter Try.func7, Try.ntmps7
    go_wp2
    go_ret
    exact ⟨_, rfl, by omega, by omega, fun h => by omega, rfl⟩
  go_enter Try.func7, Try.ntmps7
  go_wp2
  go_loopw [1, 5] (fun l i wr => ∃ (k : Nat) (n : Int), k ≤ G.length ∧ i = .int .i64 k ∧ l = .int .i64 n ∧ 0 ≤ n ∧ n ≤ 1048576 ∧ Hid (n = 1048576 - G.length - totL (G.take k)) ∧ wr = w) (fun _ i _ => G.length - (intOf i).toNat)
  case atStart => exact ⟨0, _, by omega, rfl, rfl, by omega, by omega, Lib.hid (by simp [totL]), rfl⟩
  case round =>
    obtain ⟨k, n, hk, rfl, rfl, hn0, hn1, hall, rfl⟩ := hrel
    by_cases hlt : k < G.length
    · rcases hread'.out with h | ⟨g, o, rfl, hg, hc⟩
      · subst h; simp at hlt
      obtain ⟨u, hu, hZ⟩ := hc k hlt
      have hzl : G[k].length ≤ maxLen := hrow'.out _ (List.getElem_mem hlt)
      have hall2 := hall.out
      have htk := totL_take hlt
      obtain ⟨Z, hZe⟩ : ∃ Z, Z = G[k] := ⟨_, rfl⟩
      rw [← hZe] at hZ hzl htk
      have hnew : Hid (n - Z.length = 1048576 - G.length - totL (G.take (k + 1))) := Lib.hid (by omega)
      have hall3 := Lib.hid hall2
      have hZ' := Lib.hid hZ
      have hzl' := Lib.hid hzl
      have htk' := Lib.hid htk
      clear hall2 htk hZe hc hZ hzl
      by_cases hsz : (Z.length : Int) ≤ n
      · go_wp2_with (go_at_call 20; refine (szInt64S_any _ Z _ _ hn0 hn1 hzl'.out hZ'.out).mono ?_; rw [if_pos hsz]; rintro e w2 ⟨rfl, rfl⟩)
        go_roundw
        case rel => exact ⟨k + 1, n - Z.length, by omega, by go_num, rfl, by omega, by omega, hnew, trivial⟩
        case measure => simp [intOf]; omega
      · go_wp2_with (go_at_call 20; refine (szInt64S_any _ Z _ _ hn0 hn1 hzl'.out hZ'.out).mono ?_; rw [if_neg hsz]; rintro e w2 ⟨rfl, rfl⟩)
        go_ret
        exact ⟨_, rfl, by omega, by omega, fun h => by omega, rfl⟩
    · have hkl : k = G.length := by omega
      have hall2 : Hid (0 ≤ n → G.length + totL G ≤ 1048576) := Lib.hid (by have := hall.out; rw [hkl, List.take_length] at this; omega)
      clear hkl
      go_wp2
      go_ret
      exact ⟨_, rfl, by omega, by omega, hall2.out, rfl⟩
set_option maxHeartbeats 1600000 in
theorem eqInt64SS_any (v v' : Value) (G : List (List Int)) (w : World) (hn : G.length + totL G ≤ 1048576) (h1 : GridAt w v G) (h2 : GridAt w v' G) :
    Calls Try.prog 11 #[v, v'] w fun e w' => e = .returned (.bool true) ∧ ∃ m, w' = w.drewN m := by
  obtain ⟨a, cap, rfl, hcap, hread⟩ := h1
  obtain ⟨a', cap', rfl, hcap', hread'⟩ := h2
  rcases hread with rfl | ⟨g, o, rfl, hg, hc⟩
  · go_enter Try.func11, Try.ntmps11
    go_wp2
    refine wp_loop_rounds 1 ?_
    rw [rounds_succ]
    go_wp2
    go_ret
    exact ⟨rfl, 0, rfl⟩
  rcases hread' with rfl | ⟨g', o', rfl, hg', hc'⟩
  · go_enter Try.func11, Try.ntmps11
    go_wp2
    refine wp_loop_rounds 1 ?_
    rw [rounds_succ]
    go_wp2
    go_ret
    exact ⟨rfl, 0, rfl⟩
  have h1' := Lib.hid hc
  have h2' := Lib.hid hc'
  have hn' := Lib.hid hn
  have hn2 : G.length ≤ 1048576 := by omega
  clear hc hc' hn
  go_enter Try.func11, Try.ntmps11
  go_wp2
  go_loopw [5] (fun i wr => ∃ j q : Nat, j ≤ G.length ∧ i = .int .i64 j ∧ wr = w.drewN q) (fun i _ => G.length - (intOf i).toNat)
  case atStart => exact ⟨0, 0, by omega, rfl, rfl⟩
  case round =>
    obtain ⟨j, q, hj, rfl, rfl⟩ := hrel
    by_cases hlt : j < G.length
    · obtain ⟨u, c1, z1⟩ := h1'.out j hlt
      obtain ⟨u', c2, z2⟩ := h2'.out j hlt
      have hzl : G[j].length ≤ 1048577 := by have := totL_ge (List.getElem_mem hlt); have := hn'.out; omega
      obtain ⟨Z, hZe⟩ : ∃ Z, Z = G[j] := ⟨_, rfl⟩
      rw [← hZe] at z1 z2 hzl
      have k1 : Hid (∀ n, Calls Try.prog 36 #[u, u'] (w.drewN (q + n)) fun e w' => e = .returned (.bool true) ∧ ∃ m, w' = w.drewN (q + m)) := Lib.hid (fun n => (eqInt64S_any u u' Z (w.drewN (q + n)) hzl (z1.drewN (q + n)) (z2.drewN (q + n))).mono (by rintro e w2 ⟨rfl, m, rfl⟩; exact ⟨rfl, n + m, by rw [World.drewN_drewN, Nat.add_assoc]⟩))
      clear hZe z1 z2 hzl
      go_wp2
      go_quiet ((go_at_call 36; exact k1.out _))
      go_wp2
      go_roundw
      case rel => exact ⟨j + 1, _, by omega, by go_num, rfl⟩
      case measure => simp [intOf]; omega
    · go_wp2
      go_ret
      exact ⟨rfl, q, rfl⟩
end Go.Proofs.Ytmppaimcejcoiaa
