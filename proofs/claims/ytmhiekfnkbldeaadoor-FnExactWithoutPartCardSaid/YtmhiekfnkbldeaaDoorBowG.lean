/-
  Rows of parts that are put together by slices.Concat.
-/
import Derived.Test.YtmhiekfnkbldeaaDoorBowW
import Derived.Lib.AppendZeros
namespace Go.Proofs.YtmhiekfnkbldeaaDoor
open Go.ChangeShapes Go.WideShapes Go.ChangeAt Go.RowKit Go.Deep
set_option linter.unusedVariables false
set_option linter.unusedSimpArgs false
set_option maxRecDepth 1000000
theorem growW_own (w : World) (n : Nat) (zc : Array Value) (hz : zc.size = 3) (hn : n ≤ 12) : (w.alloc (.cells (Builtin.zeroCells zc n ++ Builtin.zeroCells zc (grownCap w n 0 43 - n)) 43)).drew.ownsRow w.heap.size 43 3 (.slice (some ⟨w.heap.size, 0, none⟩) 0 (grownCap w n 0 43)) 0 [] := by
  have h1 := grownCap_ge w n 0 43
  refine ⟨rfl, Or.inr ⟨w.heap.size, grownCap w n 0 43, (Builtin.zeroCells zc n ++ Builtin.zeroCells zc (grownCap w n 0 43 - n)), rfl, Nat.le_refl _, ?_, Nat.zero_le _, grownCap_le_maxLen w n 0 _ (by unfold maxLen; omega), ?_, ?_⟩⟩
  · exact heap_alloc_new w _
  · rw [Array.size_append, size_zeroCells, size_zeroCells, hz, ← Nat.add_mul]; congr 1; omega
  · rw [Nat.zero_mul]; rfl
set_option maxHeartbeats 1600000 in
theorem growPrt_any (n : Nat) (w : World) (h0 : 0 < n) (h1 : n ≤ 12) : Calls Tryd.prog 53 #[.slice none 0 0, .int .i64 n] w fun e w' => (∃ g cap, e = .returned (.slice (some ⟨g, 0, none⟩) 0 cap) ∧ w'.ownsRow w.heap.size 43 3 (.slice (some ⟨g, 0, none⟩) 0 cap) 0 []) ∧ Below w.heap.size w w' := by
  obtain ⟨i0, hi, hz0, hz1, hz2⟩ := info_parts infoPrt
  have hnI : (0 : Int) < (n : Int) := by omega
  have hnL : ((n : Int) < 0) = False := by simp
  go_enter Tryd.func53, Tryd.ntmps53
  go_wp2_with (at_builtin; refine Lib.wpList_append_run _ rfl _ _ 26 3 rfl (.slice none 0 0) (.int .i64 n) rfl rfl _ _ (Lib.run_append_nil_zeros _ 26 3 _ 43 i0 _ .i64 .i64 Tryd.underlying26 Tryd.underlying3 hi hz0 n h0 (by omega) (by omega) (by rw [hz2]; omega)) ?_)
  go_ret
  refine ⟨⟨w.heap.size, grownCap w n 0 43, rfl, growW_own w n _ rfl h1⟩, ?_⟩
  exact belowN ((Below.refl _ _).alloc (Nat.le_refl _) _) 1
def DoneR (B : Nat) (n : Nat) (xs : List Value) (v : Value) (wr : World) : Prop := ∃ g c, v = .slice (some ⟨g, 0, none⟩) n c ∧ Hid (wr.ownsRow B 43 3 (.slice (some ⟨g, 0, none⟩) n c) n xs)
theorem doneR_of {B n : Nat} {xs : List Value} {v : Value} {w : World} (h : w.ownsRow B 43 3 v n xs) (hnn : ¬ v = .slice none 0 0) : DoneR B n xs v w := by
  have h9 := h
  rcases h.2 with ⟨h, _⟩ | ⟨g, capv, cur, rfl, _⟩
  · exact absurd h hnn
  · exact ⟨g, capv, rfl, Lib.hid h9⟩
set_option maxHeartbeats 3200000 in
theorem concatPrt_any (gb g1 o1 n1 c1 g2 o2 n2 c2 : Nat) (A B : List Prt) (w : World) (hA : A.length = n1) (hB : B.length = n2) (h0 : 0 < n1 + n2) (h12 : n1 + n2 ≤ 12) (hb : gb < w.heap.size)
    (hbA : w.cell? ⟨gb, 0, none⟩ = some (.slice (some ⟨g1, o1, none⟩) n1 c1)) (hbB : w.cell? ⟨gb, 1, none⟩ = some (.slice (some ⟨g2, o2, none⟩) n2 c2)) (hg1 : g1 < w.heap.size) (hg2 : g2 < w.heap.size)
    (srcA : ∀ (j : Nat) (u : Value), (prt_flat A)[j]? = some u → w.cell? ⟨g1, o1 + j, none⟩ = some u) (srcB : ∀ (j : Nat) (u : Value), (prt_flat B)[j]? = some u → w.cell? ⟨g2, o2 + j, none⟩ = some u) (hids : ∀ x ∈ A ++ B, x.id.size ≤ maxLen) :
    Calls Tryd.prog 46 #[.slice (some ⟨gb, 0, none⟩) 2 2] w fun e w' => (∃ g c, e = .returned (.slice (some ⟨g, 0, none⟩) (n1 + n2) c) ∧ OwnPrt w.heap.size (.slice (some ⟨g, 0, none⟩) (n1 + n2) c) (A ++ B) w') ∧ Below w.heap.size w w' := by
  obtain ⟨i0, hi, hz0, hz1, hz2⟩ := info_parts infoPrt
  have hids' := Lib.hid hids
  have sA := Lib.hid srcA
  have sB := Lib.hid srcB
  have cA := Lib.hid hbA
  have cB := Lib.hid hbB
  have hA' := Lib.hid hA
  have hB' := Lib.hid hB
  have cG := Lib.hid (fun W => growPrt_any (n1 + n2) W h0 h12)
  rw [Int.natCast_add] at cG
  clear hids srcA srcB hbA hbB hA hB
  go_enter Tryd.func46, Tryd.ntmps46
  go_wp2
  go_loopw [3, 11] (fun s i wr => ((i = .int .i64 0 ∧ s = .int .i64 0) ∨ (i = .int .i64 1 ∧ s = .int .i64 (n1 : Int)) ∨ (i = .int .i64 2 ∧ s = .int .i64 ((n1 : Int) + (n2 : Int)))) ∧ Hid (Below w.heap.size w wr)) (fun s i _ => 2 - (intOf i).toNat)
  case atStart => exact ⟨Or.inl ⟨rfl, rfl⟩, Lib.hid (Below.refl _ _)⟩
  case round =>
    obtain ⟨⟨rfl, rfl⟩ | ⟨rfl, rfl⟩ | ⟨rfl, rfl⟩, hbl⟩ := hrel
    · have c0 := (hbl.out.cell (p := ⟨gb, 0, none⟩) hb).trans cA.out
      go_wp2
      go_roundw
      case rel => exact ⟨Or.inr (Or.inl ⟨rfl, by go_num⟩), hbl⟩
      case measure => simp [intOf]
    · have c0 := (hbl.out.cell (p := ⟨gb, 1, none⟩) hb).trans cB.out
      go_wp2
      go_roundw
      case rel => exact ⟨Or.inr (Or.inr ⟨rfl, by go_num⟩), hbl⟩
      case measure => simp [intOf]
    · go_wp2_with (go_at_call 53; (with_reducible refine (cG.out _).mono ?_); rintro e w2 ⟨⟨g, cap, rfl, hown0⟩, b2⟩)
      have hown1 : Hid (DoneR w.heap.size 0 [] (.slice (some ⟨g, 0, none⟩) 0 cap) w2) := Lib.hid ⟨g, cap, rfl, Lib.hid (own_low hown0 hbl.out.size)⟩
      have hb2 := Lib.hid (below2 hbl.out b2)
      clear hown0 b2 hbl
      go_wp2
      go_loopw [6, 27] (fun v i wr => ((i = .int .i64 0 ∧ DoneR w.heap.size 0 [] v wr) ∨ (i = .int .i64 1 ∧ DoneR w.heap.size n1 (prt_flat A) v wr) ∨ (i = .int .i64 2 ∧ DoneR w.heap.size (n1 + n2) (prt_flat A ++ prt_flat B) v wr)) ∧ Hid (Below w.heap.size w wr)) (fun s i _ => 2 - (intOf i).toNat)
      case atStart => exact ⟨Or.inl ⟨rfl, hown1.out⟩, hb2⟩
      case round =>
        obtain ⟨⟨rfl, g9, c9, rfl, hown⟩ | ⟨rfl, g9, c9, rfl, hown⟩ | ⟨rfl, g9, c9, rfl, hown⟩, hbl⟩ := hrel
        · have c0 := (hbl.out.cell (p := ⟨gb, 0, none⟩) hb).trans cA.out
          go_wp2_with (at_builtin; refine wpList_append_own _ rfl _ _ 26 rfl w.heap.size 43 i0 _ 3 32 Tryd.underlying26 hi hz0 hz1 hz2 rfl (by decide) _ 0 [] rfl hown.out ⟨g1, o1, none⟩ n1 _ (prt_flat A) rfl (by rw [prt_flat_len, hA'.out]) ?c1A (prts_oneC _) ?c3A ?c4A ?c5A ?_)
          case c1A => intro j u hj; rw [add_plainW]; exact ((hbl.out.cell (p := ⟨g1, _, none⟩) hg1).trans (sA.out j u hj))
          case c3A => unfold maxLen; omega
          case c4A => omega
          case c5A => exact hbl.out.size
          intro v4 w4 hown4 hgr4 hnil4
          (try rw [Nat.zero_add] at hown4)
          (try rw [List.nil_append] at hown4)
          have hlt := hown.out.lt g9 rfl
          have hb4 := Lib.hid (hbl.out.grown hgr4 hbl.out.size (fun j hj => by cases hj; exact hlt.1))
          have hD := Lib.hid (doneR_of hown4 hnil4)
          obtain ⟨g4, c4, rfl, _⟩ := hD.out
          clear hown4 hgr4 hnil4 hown hbl
          go_wp2
          go_roundw
          case rel => exact ⟨Or.inr (Or.inl ⟨rfl, hD.out⟩), hb4⟩
          case measure => simp [intOf]
        · have c0 := (hbl.out.cell (p := ⟨gb, 1, none⟩) hb).trans cB.out
          go_wp2_with (at_builtin; refine wpList_append_own _ rfl _ _ 26 rfl w.heap.size 43 i0 _ 3 32 Tryd.underlying26 hi hz0 hz1 hz2 rfl (by decide) _ n1 (prt_flat A) rfl hown.out ⟨g2, o2, none⟩ n2 _ (prt_flat B) rfl (by rw [prt_flat_len, hB'.out]) ?c1B (prts_oneC _) ?c3B ?c4B ?c5B ?_)
          case c1B => intro j u hj; rw [add_plainW]; exact ((hbl.out.cell (p := ⟨g2, _, none⟩) hg2).trans (sB.out j u hj))
          case c3B => unfold maxLen; omega
          case c4B => omega
          case c5B => exact hbl.out.size
          intro v4 w4 hown4 hgr4 hnil4
          have hlt := hown.out.lt g9 rfl
          have hb4 := Lib.hid (hbl.out.grown hgr4 hbl.out.size (fun j hj => by cases hj; exact hlt.1))
          have hD := Lib.hid (doneR_of hown4 hnil4)
          obtain ⟨g4, c4, rfl, _⟩ := hD.out
          clear hown4 hgr4 hnil4 hown hbl
          go_wp2
          go_roundw
          case rel => exact ⟨Or.inr (Or.inr ⟨rfl, hD.out⟩), hb4⟩
          case measure => simp [intOf]
        · have hO := Lib.hid (prt_ofRow (Y := A ++ B) hown.out (by unfold prt_flat; rw [List.flatMap_append]) (by rw [List.length_append, hA'.out, hB'.out]) (by rw [List.length_append, hA'.out, hB'.out]; omega) hids'.out)
          clear hown
          go_wp2
          go_ret
          exact ⟨⟨_, _, rfl, hO.out⟩, hbl.out⟩
end Go.Proofs.YtmhiekfnkbldeaaDoor
