/-
  The model's drawn list of necks.
-/
import Derived.Test.YtcdpkbcpglaiaaaDrn
import Derived.Test.YtcdpkbcpglaiaaaNcks2
import Derived.Test.YtcdpkbcpglaiaaaSplit
import Derived.Test.YtcdpkbcpglaiaaaIntRow
import Derived.OwnWalk
namespace Go.Proofs.Ytcdpkbcpglaiaaa
open Go.ChangeShapes Go.WideShapes Go.ChangeAt Go.RowKit Go.Deep
set_option linter.unusedVariables false
set_option maxRecDepth 1000000
set_option linter.unusedSimpArgs false
/-- all cells of a list of necks -/
def nck_flat (Z : List Nck) : List Value := Z.flatMap Nck.cells
theorem nck_cellsN (x : Nck) : x.cells.length = 4 := rfl
theorem nck_flat_len : ∀ Z : List Nck, (nck_flat Z).length = Z.length * 4
  | [] => rfl
  | x :: Z => by
    have := nck_flat_len Z
    unfold nck_flat at this ⊢
    rw [List.flatMap_cons, List.length_append, this, nck_cellsN, List.length_cons]; omega
theorem nck_flat_get : ∀ (Z : List Nck) (i : Nat) (hi : i < Z.length) (j : Nat), j < 4 → (nck_flat Z)[i * 4 + j]? = (Z[i]).cells[j]?
  | x :: Z, 0, _, j, hj => by
    unfold nck_flat
    rw [List.flatMap_cons, Nat.zero_mul, Nat.zero_add, List.getElem?_append_left (by rw [nck_cellsN]; exact hj)]; rfl
  | x :: Z, i + 1, hi, j, hj => by
    have := nck_flat_get Z i (by simpa using hi) j hj
    unfold nck_flat at this ⊢
    rw [List.flatMap_cons, List.getElem?_append_right (by rw [nck_cellsN]; omega), nck_cellsN, show (i + 1) * 4 + j - 4 = i * 4 + j by omega, this]; rfl
theorem nck_flat_snoc (Z : List Nck) (x : Nck) : nck_flat (Z ++ [x]) = nck_flat Z ++ x.cells := by
  unfold nck_flat; rw [List.flatMap_append]; simp
/-- a row of necks of the call's own -/
def OwnN (w : World) (B : Nat) (v : Value) (Z : List Nck) : Prop := w.ownsRow B 26 4 v Z.length (nck_flat Z)
theorem OwnN.ncks {w : World} {B : Nat} {v : Value} {Z : List Nck} (h : OwnN w B v Z) : NcksAt w v Z := by
  have h0 := h
  rcases h.2 with ⟨rfl, hz⟩ | ⟨g, cap, cur, rfl, hg, hh, hnn, hcp, hs, hx⟩
  · exact ⟨none, 0, by rw [hz], by omega, fun _ _ => trivial, Or.inl (List.length_eq_zero_iff.1 hz)⟩
  · refine ⟨_, _, rfl, hnn, fun _ _ => trivial, Or.inr ⟨g, 0, rfl, (h0.lt g rfl).2, fun i hi j u hj => ?_⟩⟩
    have hj4 : j < 4 := by have := (List.getElem?_eq_some_iff.1 hj).1; rwa [nck_cellsN] at this
    rw [Nat.zero_add]
    exact ((World.ownsRow.cellAt h0 (i * 4 + j) (by omega)).trans (nck_flat_get Z i hi j hj4)).trans hj
theorem nck_start (w : World) : OwnN (w.alloc (.cells #[] 26)) w.heap.size (.slice (some ⟨w.heap.size, 0, none⟩) 0 0) [] :=
  ⟨rfl, Or.inr ⟨w.heap.size, 0, #[], rfl, Nat.le_refl _, heap_alloc_new _ _, Nat.le_refl 0, by unfold maxLen; omega, rfl, rfl⟩⟩
theorem src_same {w w' : World} {b n : Nat} {v : Value} (h : SrcAt w b v n) (e : w'.heap[b]? = w.heap[b]?) : SrcAt w' b v n := by
  obtain ⟨h0, c0, c1, ⟨s, c2⟩, z1, z2⟩ := h
  have hs : b < w'.heap.size := by
    rw [Array.getElem?_eq_getElem h0] at e
    exact lt_some e
  refine ⟨hs, (cell_block e).trans c0, (cell_block e).trans c1, ⟨s, (cell_block e).trans c2⟩, ?_, ?_⟩
  · rw [← z1]; simp only [World.frozen?, e]
  · rw [← z2]; simp only [World.frozen?, e]
/-- what a drawn list leaves: k necks are laid -/
structure DrL (b B n k : Nat) (u v : Value) (Z : List Int) (Y : List Nck) (w0 w : World) : Prop where
  own : OwnN w w0.heap.size u Y
  len : Y.length = k
  src : SrcAt w b v n
  u8 : U8Old B w v Z
  grown : w0.grownBy w (some b)
theorem DrL.after {b B n m k : Nat} {u v : Value} {Z : List Int} {Y : List Nck} {w0 w w' : World} (h : DrL b B n k u v Z Y w0 w) (hb : b < w0.heap.size) (s : SrcAt w' b v m) (u' : U8Old B w' v Z) (g : w.grownBy w' (some b)) : DrL b B m k u v Z Y w0 w' :=
  ⟨World.ownsRow.kept h.own g (Or.inr fun e => by have := World.ownsRow.own_ge h.own b e; omega), h.len, s, u', gtrans h.grown g⟩
theorem DrL.append {b B n k : Nat} {u u' v : Value} {Z : List Int} {Y : List Nck} {w0 w w' : World} {o : Obj} (x : Nck) (h : DrL b B n k u v Z Y w0 w) (hB : B ≤ b) (hb : b < w0.heap.size) (h1 : w'.ownsRow w0.heap.size 26 4 u' (k + 1) (nck_flat Y ++ x.cells)) (h2 : (w.alloc o).grownBy w' u.ownBlock) : DrL b B n (k + 1) u' v Z (Y ++ [x]) w0 w' := by
  have hge : ∀ j, u.ownBlock = some j → w0.heap.size ≤ j := fun j e => World.ownsRow.own_ge h.own j e
  have hz : w0.heap.size ≤ w.heap.size := h.grown.size
  have hne : u.ownBlock ≠ some b := fun e => by have := hge b e; omega
  have hA : Below w.heap.size w (w.alloc o) := (Below.refl _ _).alloc (Nat.le_refl _) _
  have kb : w'.heap[b]? = w.heap[b]? := (h2.block b (by have := h.src.1; simp; omega) (fun e => hne e.symm)).trans (Below.heap_alloc w o b (by have := h.src.1; omega))
  refine ⟨?_, by rw [List.length_append, h.len]; rfl, src_same h.src kb, ?_, ?_⟩
  · unfold OwnN
    rw [nck_flat_snoc, List.length_append, h.len]
    exact h1
  · obtain ⟨a, cap, e1, e2, e3, e4⟩ := h.u8
    refine ⟨a, cap, e1, e2, e3, ?_⟩
    rcases e4 with e4 | ⟨g, q, e, hg0, hg, hc⟩
    · exact Or.inl e4
    · have kg : w'.heap[g]? = w.heap[g]? := (h2.block g (by simp; omega) (fun e => by have := hge g e.symm; omega)).trans (Below.heap_alloc w o g (by omega))
      exact Or.inr ⟨g, q, e, hg0, by have := h2.size; simp at this; omega, fun j y => (cell_block kg).trans (hc j y)⟩
  · have hA' := gtrans h.grown (below_grown' hA (some b))
    refine ⟨h2.os.trans hA'.os, h2.tape.trans hA'.tape, h2.output.trans hA'.output, Nat.le_trans hA'.size h2.size, fun j hj hr => ?_⟩
    exact (h2.block j (Nat.lt_of_lt_of_le hj hA'.size) (fun e => by have := hge j e.symm; omega)).trans (hA'.block j hj hr)
theorem DrL.low {b B n k : Nat} {u v : Value} {Z : List Int} {Y : List Nck} {w w0 wr : World} (h : DrL b B n k u v Z Y w0 wr) (g : w.grownBy w0 (some b)) : DrL b B n k u v Z Y w wr :=
  ⟨own_low h.own g.size, h.len, h.src, h.u8, gtrans g h.grown⟩
def slLen : Value → Nat
  | .slice _ n _ => n
  | _ => 0
def NksRet (b B : Nat) (v : Value) (Z : List Int) (n : Nat) (w : World) (e : Ending) (w' : World) : Prop :=
  ∃ (u : Value) (Y : List Nck) (m : Nat), e = .returned u ∧ Y.length ≤ 65 ∧ m ≤ n ∧ DrL b B m Y.length u v Z Y w w'
set_option maxHeartbeats 3200000 in
theorem l10DrawList_any (b B n : Nat) (v : Value) (Z : List Int) (w : World) (hB : B ≤ b) (hn : n ≤ 5) (hZ : Z.length ≤ 1048576) (hs : SrcAt w b v n) (hu : U8Old B w v Z) :
    Calls Try.prog 16 #[.pointer (some ⟨b, 0, none⟩)] w (NksRet b B v Z (n + 37) w) := by
  obtain ⟨i0, hi, hz0, hz1, hz2⟩ := info_parts infoNck
  have hbw : b < w.heap.size := hs.1
  have q1 := Lib.hid (pickS_any 6 (by decide) (by decide) b B n v Z (w.alloc (.cells #[] 26)) hB (by omega) hZ (src_alloc hs _) (u8_alloc hu _))
  have hO := Lib.hid (nck_start w)
  clear hs hu
  go_enter Try.func16, Try.ntmps16
  go_wp2_with fail
  refine q1.out.mono ?_
  rintro e w1 ⟨p, rfl, p0, p1, s1, u1, g1⟩
  have hD0 : Hid (DrL b B (n + 1) 0 (.slice (some ⟨w.heap.size, 0, none⟩) 0 0) v Z [] w w1) := Lib.hid ⟨World.ownsRow.kept hO.out g1 (Or.inr fun e => by have := World.ownsRow.own_ge hO.out b e; omega), rfl, s1, u1, gtrans (below_grown' ((Below.refl _ _).alloc (Nat.le_refl _) _) _) g1⟩
  clear s1 u1 g1 q1 hO
  go_wp2
  go_loopw [3, 4] (fun u i wr => ∃ (k : Nat) (Y : List Nck) (m : Nat), (k : Int) ≤ p ∧ i = .int .i64 (p - k) ∧ m ≤ n + 1 + 6 * k ∧ Hid (DrL b B m k u v Z Y w wr)) (fun _ i _ => (intOf i).toNat)
  case atStart => exact ⟨0, [], n + 1, by omega, by simp, by omega, hD0⟩
  case round =>
    obtain ⟨k, Y, m, hk, rfl, hm, hD⟩ := hrel
    by_cases hlt : (k : Int) < p
    · have hlt2 : 0 < p - (k : Int) := by omega
      have cD := Lib.hid (l10Draw_any b B m v Z wr hB (by omega) hZ hD.out.src hD.out.u8)
      go_wp2_with fail
      refine cD.out.mono ?_
      rintro e w2 ⟨x1, x2, x3, x4, m2, rfl, -, -, -, -, hm2, s2, u2, g2⟩
      have D2 := hD.out.after hbw s2 u2 g2
      have D2l := D2.len
      have D2H := Lib.hid D2
      clear s2 u2 g2 cD hD D2
      go_wp2_with (at_builtin; refine wpList_append_own _ rfl _ _ 24 rfl w.heap.size 26 i0 _ 4 32 Try.underlying24 hi hz0 hz1 hz2 rfl (by decide) _ _ _ rfl (World.ownsRow.alloc D2H.out.own _) ⟨w2.heap.size, 0, none⟩ 1 1 [.int .i64 x1, .int .i64 x2, .int .i64 x3, .int .i64 x4] rfl rfl ?c1A ?c2A ?c3A ?c4A ?c5A ?_)
      case c1A =>
        intro j u hj
        match j, hj with
        | 0, hj => simp at hj; subst hj; simp [Addr.add]
        | 1, hj => simp at hj; subst hj; simp [Addr.add]
        | 2, hj => simp at hj; subst hj; simp [Addr.add]
        | 3, hj => simp at hj; subst hj; simp [Addr.add]
      case c2A => intro u hu; simp at hu; rcases hu with rfl | rfl | rfl | rfl <;> rfl
      case c3A => unfold maxLen; omega
      case c4A => omega
      case c5A => have := D2H.out.grown.size; simp at this ⊢; omega
      intro v' w3 hown' hgrow' _
      have D3 := Lib.hid (DrL.append ⟨x1, x2, x3, x4⟩ D2H.out hB hbw hown' hgrow')
      clear hgrow' hown' D2H
      go_wp2
      go_roundw
      case rel => exact ⟨k + 1, Y ++ [⟨x1, x2, x3, x4⟩], m2, by omega, by go_num, by omega, D3⟩
      case measure => simp [intOf]; omega
    · have hkp : p = (k : Int) := by omega
      have hkk : ¬ (0 < p - (k : Int)) := by omega
      have q2 := Lib.hid (one_any 16 (by decide) (by decide) b B m v Z wr hB (by omega) hZ hD.out.src hD.out.u8)
      go_wp2_with fail
      refine q2.out.mono ?_
      rintro e w2 ⟨t, rfl, s2, u2, g2⟩
      have D2 := Lib.hid (hD.out.after hbw s2 u2 g2)
      clear s2 u2 g2 q2 hD
      cases t
      · go_wp2
        go_ret
        exact ⟨_, Y, m + 1, rfl, by have := D2.out.len; omega, by omega, D2.out.len ▸ D2.out⟩
      · have q3 := Lib.hid (fun C t => among_alloc [64, 65] (by decide) (by decide) C t b B (m + 1) v Z w2 hB (by omega) hZ D2.out.src D2.out.u8)
        have G2 := Lib.hid D2.out.grown
        clear D2
        go_wp2_with fail
        refine (q3.out _ _ rfl).mono ?_
        rintro e w4 ⟨r, rfl, hr, s4, u4, g4⟩
        have hrb : 64 ≤ r ∧ r ≤ 65 := by
          simp only [List.mem_cons, List.mem_nil_iff, or_false] at hr
          omega
        have G4 := Lib.hid (gtrans G2.out g4)
        have q5 := Lib.hid (l10DrawOk_any b B (m + 1 + 1) v Z w4 hB (by omega) hZ s4 u4)
        clear s4 u4 g4 q3 G2 hr
        go_wp2_with fail
        refine q5.out.mono ?_
        rintro e w5 ⟨x1, x2, x3, x4, m5, rfl, -, -, -, -, hm5, s5, u5, g5⟩
        have G5 := gtrans G4.out g5
        have s6 := src_alloc s5 (.cells #[.int .i64 x1, .int .i64 x2, .int .i64 x3, .int .i64 x4] 26)
        have u6 := u8_alloc u5 (.cells #[.int .i64 x1, .int .i64 x2, .int .i64 x3, .int .i64 x4] 26)
        have G6 := grown_alloc G5 (.cells #[.int .i64 x1, .int .i64 x2, .int .i64 x3, .int .i64 x4] 26)
        have hX6 := heap_alloc_new w5 (.cells #[.int .i64 x1, .int .i64 x2, .int .i64 x3, .int .i64 x4] 26)
        have hXs : w5.heap.size < (w5.alloc (.cells #[.int .i64 x1, .int .i64 x2, .int .i64 x3, .int .i64 x4] 26)).heap.size := by simp
        have hXb : w5.heap.size ≠ b := by have := s5.1; omega
        clear s5 u5 g5 G4 q5 G5
        have hO6 := nck_start (w5.alloc (.cells #[.int .i64 x1, .int .i64 x2, .int .i64 x3, .int .i64 x4] 26))
        have D6 := Lib.hid (DrL.mk (b := b) (B := B) (n := m5) (k := 0) (w0 := w5.alloc (.cells #[.int .i64 x1, .int .i64 x2, .int .i64 x3, .int .i64 x4] 26)) (v := v) (Z := Z) hO6 rfl (src_alloc s6 (.cells #[] 26)) (u8_alloc u6 (.cells #[] 26)) (below_grown' ((Below.refl _ _).alloc (Nat.le_refl _) _) _))
        rw [show (w5.alloc (.cells #[.int .i64 x1, .int .i64 x2, .int .i64 x3, .int .i64 x4] 26)).heap.size = w5.heap.size + 1 by simp] at D6
        have G6' := Lib.hid G6
        have hXl := Lib.hid (show (w5.alloc (.cells #[.int .i64 x1, .int .i64 x2, .int .i64 x3, .int .i64 x4] 26)).heap.size = w5.heap.size + 1 by simp)
        clear s6 u6 G6 hO6
        have cX0 := cellB hX6 0 _ rfl
        have cX1 := cellB hX6 1 _ rfl
        have cX2 := cellB hX6 2 _ rfl
        have cX3 := cellB hX6 3 _ rfl
        clear cX0 cX1 cX2 cX3
        obtain ⟨X, hXe⟩ : ∃ X, X = w5.heap.size := ⟨_, rfl⟩
        go_wp2_with fail
        rw [← hXe]
        rw [← hXe] at hX6 hXs hXb D6
        clear hXe
        go_loopw [3] (fun u wr => ∃ (k : Nat) (Y : List Nck), (k : Int) ≤ r ∧ slLen u = k ∧ Hid (DrL b B m5 k u v Z Y (w5.alloc (.cells #[.int .i64 x1, .int .i64 x2, .int .i64 x3, .int .i64 x4] 26)) wr)) (fun u _ => 65 - slLen u)
        case atStart => exact ⟨0, [], by omega, rfl, D6⟩
        case round =>
          obtain ⟨k, Y, hk, hsl, hD⟩ := hrel
          have hDl := hD.out.len
          obtain ⟨ao, cap, hu, -⟩ := hD.out.own.ncks
          subst hu
          rw [hDl] at hD ⊢
          have hXw := (hD.out.grown.block X hXs (fun e => hXb (by injection e))).trans hX6
          have cX0 := cellB hXw 0 _ rfl
          have cX1 := cellB hXw 1 _ rfl
          have cX2 := cellB hXw 2 _ rfl
          have cX3 := cellB hXw 3 _ rfl
          clear hXw
          by_cases hlt : (k : Int) < r
          · skip
            go_wp2_with (at_builtin; refine wpList_append_own _ rfl _ _ 24 rfl (w5.alloc (.cells #[.int .i64 x1, .int .i64 x2, .int .i64 x3, .int .i64 x4] 26)).heap.size 26 i0 _ 4 32 Try.underlying24 hi hz0 hz1 hz2 rfl (by decide) _ _ _ rfl (World.ownsRow.alloc hD.out.own _) ⟨wr.heap.size, 0, none⟩ 1 1 [.int .i64 x1, .int .i64 x2, .int .i64 x3, .int .i64 x4] rfl rfl ?c1A ?c2A ?c3A ?c4A ?c5A ?_)
            case c1A =>
              intro j u hj
              match j, hj with
              | 0, hj => simp at hj; subst hj; simp [Addr.add]
              | 1, hj => simp at hj; subst hj; simp [Addr.add]
              | 2, hj => simp at hj; subst hj; simp [Addr.add]
              | 3, hj => simp at hj; subst hj; simp [Addr.add]
            case c2A => intro u hu; simp at hu; rcases hu with rfl | rfl | rfl | rfl <;> rfl
            case c3A => unfold maxLen; omega
            case c4A => omega
            case c5A => have := hD.out.grown.size; simp at this ⊢; omega
            intro v' w3 hown' hgrow' _
            have D3 := Lib.hid (DrL.append ⟨x1, x2, x3, x4⟩ hD.out hB (by have := G6'.out.size; omega) (by rw [hXl.out]; exact hown') hgrow')
            have hs3 := Lib.hid (show slLen v' = k + 1 by obtain ⟨_, _, e, _⟩ := D3.out.own.ncks; rw [e]; exact D3.out.len)
            clear hgrow' hown' hD
            go_wp2
            go_roundw
            case rel => exact ⟨k + 1, Y ++ [⟨x1, x2, x3, x4⟩], by omega, hs3.out, D3⟩
            case measure =>
              have h1 := hs3.out
              have h2 : slLen (.slice ao k cap) = k := rfl
              simp only [Array.getD_eq_getD_getElem?, List.getElem?_toArray, List.getElem?_cons_succ, List.getElem?_cons_zero, Option.getD_some, h1, h2]
              omega
          · have D7 := Lib.hid (hD.out.low G6'.out)
            clear hD cX0 cX1 cX2 cX3
            go_wp2
            go_ret
            exact ⟨_, Y, m5, rfl, by have := D7.out.len; omega, by omega, D7.out.len ▸ D7.out⟩
end Go.Proofs.Ytcdpkbcpglaiaaa
