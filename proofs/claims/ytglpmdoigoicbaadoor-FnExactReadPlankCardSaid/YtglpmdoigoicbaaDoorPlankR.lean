/-
  Contracts of the program's reader of planks.
-/
import Derived.Test.YtglpmdoigoicbaaDoorPlankT
import Derived.Test.YtglpmdoigoicbaaDoorPlankRM
import Derived.Test.YtglpmdoigoicbaaDoorReadListI
import Derived.Test.YtglpmdoigoicbaaDoorMonth
namespace Go.Proofs.YtglpmdoigoicbaaDoor
open Go.ChangeShapes Go.WideShapes Go.ChangeAt Go.RowKit
set_option linter.unusedVariables false
set_option linter.unusedSimpArgs false
/-- the plank with a text -/
def plkO (l : List UInt8) : Option Plk :=
  match splitL 32 l with
  | [p, q] => (match readL q with
    | some [a, b, c, d, f] => if plkB ⟨⟨p.toArray⟩, a, b, c, d, f⟩ = true then some ⟨⟨p.toArray⟩, a, b, c, d, f⟩ else none
    | _ => none)
  | _ => none
/-- a plank and true, or the zero plank and false -/
def plkVal (o : Option Plk) : Value :=
  match o with
  | none => .tuple #[.agg #[.string ⟨#[]⟩, .int .i64 0, .int .i64 0, .int .i64 0, .int .i64 0, .int .i64 0], .bool false]
  | some x => .tuple #[.agg #[.string x.id, .int .i64 x.len, .int .i64 x.wid, .int .i64 x.thk, .int .i64 x.mas, .int .i64 x.rin], .bool true]
theorem plkO_no {l : List UInt8} (h : ∀ p q, splitL 32 l ≠ [p, q]) : plkO l = none := by
  unfold plkO
  split
  · rename_i p q e; exact absurd e (h p q)
  · rfl
def plkOf (p q : List UInt8) : Option Plk :=
  match readL q with
    | some [a, b, c, d, f] => if plkB ⟨⟨p.toArray⟩, a, b, c, d, f⟩ = true then some ⟨⟨p.toArray⟩, a, b, c, d, f⟩ else none
    | _ => none
theorem plkO_two {l p q : List UInt8} (h : splitL 32 l = [p, q]) : plkO l = plkOf p q := by
  unfold plkO plkOf; rw [h]
/-- the program reads the same plank -/
theorem plkO_cut (l : List UInt8) : plkO l = plkOf (Lib.cut l [32]).1 (Lib.cut l [32]).2.1 := by
  rcases cut_cases l with ⟨h1, h2⟩ | ⟨r, h1, h2 | h2⟩
  · rw [plkO_no h2, h1]; unfold plkOf; rw [readL_nil]
  · rw [plkO_no h2.2, h1]; unfold plkOf; rw [readL_blank (c := 32) (by decide) (by decide) (by decide) h2.1]
  · rw [plkO_two h2, h1]
/-- the block of a result -/
def ResAt (w : World) (g : Nat) : Prop := w.heap[g]? = some (.cells #[.string ⟨#[]⟩, .int .i64 0, .int .i64 0, .int .i64 0, .int .i64 0, .int .i64 0] 35 (0, 0))
theorem ResAt.facts {w : World} {g : Nat} (h : ResAt w g) : (w.cell? ⟨g, 0, none⟩ = some (.string ⟨#[]⟩) ∧ w.cell? ⟨g, 1, none⟩ = some (.int .i64 0) ∧ w.cell? ⟨g, 2, none⟩ = some (.int .i64 0) ∧ w.cell? ⟨g, 3, none⟩ = some (.int .i64 0) ∧ w.cell? ⟨g, 4, none⟩ = some (.int .i64 0) ∧ w.cell? ⟨g, 5, none⟩ = some (.int .i64 0)) ∧ (w.frozen? ⟨g, 0, none⟩ = false ∧ w.frozen? ⟨g, 1, none⟩ = false ∧ w.frozen? ⟨g, 2, none⟩ = false ∧ w.frozen? ⟨g, 3, none⟩ = false ∧ w.frozen? ⟨g, 4, none⟩ = false ∧ w.frozen? ⟨g, 5, none⟩ = false) :=
  ⟨⟨cellB h 0 _ rfl, cellB h 1 _ rfl, cellB h 2 _ rfl, cellB h 3 _ rfl, cellB h 4 _ rfl, cellB h 5 _ rfl⟩, freeB h 0, freeB h 1, freeB h 2, freeB h 3, freeB h 4, freeB h 5⟩
theorem ResAt.below {w w' : World} {g : Nat} (h : ResAt w g) (hb : Below w.heap.size w w') : ResAt w' g := by
  have hl : g < w.heap.size := (Array.getElem?_eq_some_iff.1 h).1
  exact (hb.block g hl).trans h
theorem ResAt.start (w : World) : ResAt (w.alloc (.cells #[.string ⟨#[]⟩, .int .i64 0, .int .i64 0, .int .i64 0, .int .i64 0, .int .i64 0] 35)) w.heap.size := heap_alloc_new _ _
/-- what a list of planks' numbers hands back, opened -/
theorem lret_open {o : Option (List Int)} {w w' : World} {e : Ending} (h : LRet o w e w') (hz : ∀ Z, o = some Z → ∀ n ∈ Z, inI n) : (o = none ∧ e = .returned (.tuple #[.slice none 0 0, .bool false]) ∧ Below w.heap.size w w') ∨ ∃ Z v, o = some Z ∧ e = .returned (.tuple #[v, .bool true]) ∧ IntsAt w' v Z ∧ Below w.heap.size w w' := by
  cases o with
  | none => exact Or.inl ⟨rfl, h.1, h.2⟩
  | some Z =>
    obtain ⟨v, he, ho, hb⟩ := h
    exact Or.inr ⟨Z, v, rfl, he, ints_own ho (hz Z rfl), hb⟩
theorem readL_in {l : List UInt8} {Z : List Int} (h : readL l = some Z) : ∀ n ∈ Z, inI n := by
  unfold readL at h
  split at h
  · cases h; intro n hn; cases hn
  · split at h
    · cases h
    · intro n hn
      have := readParts_in h n hn
      unfold inI; omega
theorem readL_len {l : List UInt8} {Z : List Int} (h : readL l = some Z) : Z.length ≤ 64 := by
  unfold readL at h
  split at h
  · cases h; simp
  · split at h
    · cases h
    · have := readParts_len h; omega
theorem row_five {w : World} {B : Nat} {v : Value} {a b c d f : Int} (h : w.ownsRow B 2 1 v 5 [.int .i64 a, .int .i64 b, .int .i64 c, .int .i64 d, .int .i64 f]) : ∃ g cap, v = .slice (some ⟨g, 0, none⟩) 5 cap ∧ 5 ≤ cap ∧ g < w.heap.size ∧ (w.cell? ⟨g, 0, none⟩ = some (.int .i64 a) ∧ w.cell? ⟨g, 1, none⟩ = some (.int .i64 b) ∧ w.cell? ⟨g, 2, none⟩ = some (.int .i64 c) ∧ w.cell? ⟨g, 3, none⟩ = some (.int .i64 d) ∧ w.cell? ⟨g, 4, none⟩ = some (.int .i64 f)) := by
  have h0 := h
  rcases h.2 with ⟨h1, h2⟩ | ⟨g, cap, cur, hv, hg, hb, hn, hcap, _, _⟩
  · omega
  · subst hv
    exact ⟨g, cap, rfl, hn, (h0.lt g rfl).2, by rw [h0.cellAt 0 (by omega)]; rfl, by rw [h0.cellAt 1 (by omega)]; rfl, by rw [h0.cellAt 2 (by omega)]; rfl, by rw [h0.cellAt 3 (by omega)]; rfl, by rw [h0.cellAt 4 (by omega)]; rfl⟩
theorem cut_any (s : ByteArray) (hs : s.size ≤ 1048576) : ∃ A B : ByteArray, A.data.toList = (Lib.cut s.data.toList [32]).1 ∧ B.data.toList = (Lib.cut s.data.toList [32]).2.1 ∧ A = ⟨(Lib.cut s.data.toList [32]).1.toArray⟩ ∧ A.size ≤ 1048576 ∧ B.size ≤ 1048576 ∧ ∃ b, Hid (∀ W, W.ShapedOpen Tryd.prog → Calls Tryd.prog 80 #[.string s, .string ⟨#[32]⟩] W fun e w' => e = .returned (.tuple #[.string A, .string B, .bool b]) ∧ ∃ n, w' = W.drewN n) := by
  have hsz : (Lib.cut s.data.toList [32]).1.length ≤ 1048576 ∧ (Lib.cut s.data.toList [32]).2.1.length ≤ 1048576 := by
    unfold Lib.cut
    split
    · exact ⟨by show (s.data.toList.take _).length ≤ _; rw [List.length_take, len_data]; omega, by show (s.data.toList.drop _).length ≤ _; rw [List.length_drop, len_data]; omega⟩
    · exact ⟨by rw [len_data]; omega, by simp⟩
  exact ⟨⟨(Lib.cut s.data.toList [32]).1.toArray⟩, ⟨(Lib.cut s.data.toList [32]).2.1.toArray⟩, rfl, rfl, rfl, by rw [← len_data]; exact hsz.1, by rw [← len_data]; exact hsz.2, (Lib.cut s.data.toList [32]).2.2, Lib.hid (fun W h => Tryd.strings_Cut_shaped s ⟨#[32]⟩ W h (by omega))⟩
theorem plkOf_no {p q : List UInt8} (h : ∀ a b c d f, readL q ≠ some [a, b, c, d, f]) : plkOf p q = none := by
  unfold plkOf
  split
  · rename_i a b c d f e; exact absurd e (h a b c d f)
  · rfl
theorem plkOf_yes {p q : List UInt8} {a b c d f : Int} (h : readL q = some [a, b, c, d, f]) : plkOf p q = if plkB ⟨⟨p.toArray⟩, a, b, c, d, f⟩ = true then some ⟨⟨p.toArray⟩, a, b, c, d, f⟩ else none := by
  unfold plkOf; rw [h]
set_option maxHeartbeats 3200000 in
set_option maxRecDepth 1000000 in
theorem implReadPlank_any (s : ByteArray) (w : World) (hs : s.size ≤ 1048576) (hT : TabP w) (hE : ErrsAt w) (hSh : w.ShapedOpen Tryd.prog) :
    Calls Tryd.prog 40 #[.string s] w fun e w' => e = .returned (plkVal (plkO s.data.toList)) ∧ Below w.heap.size w w' := by
  obtain ⟨A, B, hA, hB, hA', hAs, hBs, bb, cC⟩ := cut_any s hs
  have hq := Lib.hid (plkO_cut s.data.toList)
  have hf0 := fresh_b w (.cells #[.string ⟨#[]⟩, .int .i64 0, .int .i64 0, .int .i64 0, .int .i64 0, .int .i64 0] 35)
  have hSh0 := shape_below hSh hf0
  have hR0 := Lib.hid (ResAt.start w)
  have cR0 := fun W h1 h2 h3 => (implReadList_any B W hBs h1 h2 h3).mono fun e w' h => lret_open (o := readL B.data.toList) h (fun Z h => readL_in h)
  have hT' := Lib.hid hT
  have hE' := Lib.hid hE
  rw [hB] at cR0
  clear hT hE
  cases ho : readL (Lib.cut s.data.toList [32]).2.1 with
  | none =>
    have hr : Hid (plkVal (plkO s.data.toList) = .tuple #[.agg #[.string ⟨#[]⟩, .int .i64 0, .int .i64 0, .int .i64 0, .int .i64 0, .int .i64 0], .bool false]) := Lib.hid (by rw [hq.out, plkOf_no (by intro a b c d f h; rw [ho] at h; cases h)]; rfl)
    have cR : Hid (∀ W, TabP W → ErrsAt W → W.ShapedOpen Tryd.prog → Calls Tryd.prog 81 #[.string B] W fun e w' => e = .returned (.tuple #[.slice none 0 0, .bool false]) ∧ Below W.heap.size W w') := Lib.hid (fun W h1 h2 h3 => (cR0 W h1 h2 h3).mono fun e w' h => by
      rcases h with ⟨_, h4, h5⟩ | ⟨Z, v, h4, _⟩
      · exact ⟨h4, h5⟩
      · rw [ho] at h4; cases h4)
    clear cR0 ho hq hA hB hA'
    go_enter Tryd.func40, Tryd.ntmps40
    go_wp2_with fail
    refine (cC.out _ hSh0).mono ?_
    rintro e w1 ⟨rfl, n, rfl⟩
    go_wp2_with fail
    refine (cR.out _ (hT'.out.below (belowN hf0 n)) (hE'.out.below (belowN hf0 n)) (shape_below hSh (belowN hf0 n))).mono ?_
    rintro e w2 ⟨rfl, b2⟩
    have B2 := below2 (belowN hf0 n) b2
    have hR2 := hR0.out.below ((belowN (Below.refl _ _) n).trans b2)
    clear b2 hf0
    obtain ⟨⟨c0, c1, c2, c3, c4, c5⟩, f0, f1, f2, f3, f4, f5⟩ := hR2.facts
    go_wp2
    exact bodyPost_ret (v := .tuple #[.agg #[.string ⟨#[]⟩, .int .i64 0, .int .i64 0, .int .i64 0, .int .i64 0, .int .i64 0], .bool false]) (by simp [results, Tryd.results40, go_sem, c0, c1, c2, c3, c4, c5, f0, f1, f2, f3, f4, f5]) rfl ⟨by rw [hr.out], ((((((B2.setCell (p := ⟨w.heap.size, 0, none⟩) (Nat.le_refl _) _).setCell (p := ⟨w.heap.size, 1, none⟩) (Nat.le_refl _) _).setCell (p := ⟨w.heap.size, 2, none⟩) (Nat.le_refl _) _).setCell (p := ⟨w.heap.size, 3, none⟩) (Nat.le_refl _) _).setCell (p := ⟨w.heap.size, 4, none⟩) (Nat.le_refl _) _).setCell (p := ⟨w.heap.size, 5, none⟩) (Nat.le_refl _) _)⟩
  | some Z =>
    by_cases h5 : Z.length = 5
    rotate_left
    · have hr : Hid (plkVal (plkO s.data.toList) = .tuple #[.agg #[.string ⟨#[]⟩, .int .i64 0, .int .i64 0, .int .i64 0, .int .i64 0, .int .i64 0], .bool false]) := Lib.hid (by rw [hq.out, plkOf_no (by intro a b c d f h; rw [ho] at h; cases h; exact h5 rfl)]; rfl)
      obtain ⟨N, hN⟩ : ∃ N, N = Z.length := ⟨_, rfl⟩
      have cR : Hid (∀ W, TabP W → ErrsAt W → W.ShapedOpen Tryd.prog → Calls Tryd.prog 81 #[.string B] W fun e w' => ∃ a cap, e = .returned (.tuple #[.slice a N cap, .bool true]) ∧ N ≤ cap ∧ Below W.heap.size W w') := Lib.hid (fun W h1 h2 h3 => (cR0 W h1 h2 h3).mono fun e w' h => by
        rcases h with ⟨h4, _⟩ | ⟨Z', v, h4, h6, h7, h8⟩
        · rw [ho] at h4; cases h4
        · rw [ho] at h4; cases h4
          obtain ⟨a, cap, rfl, hc, _⟩ := h7
          exact ⟨a, cap, by rw [hN]; exact h6, by rw [hN]; exact hc, h8⟩)
      have hN64 : N ≤ 64 := by rw [hN]; exact readL_len ho
      have t0 : ((N : Int) == 5) = false := by rw [beq_eq_false_iff_ne]; omega
      have u0 : ((N : Int) != 5) = true := by unfold bne; rw [t0]; rfl
      clear cR0 ho hq hA hB hA' hN h5
      go_enter Tryd.func40, Tryd.ntmps40
      go_wp2_with fail
      refine (cC.out _ hSh0).mono ?_
      rintro e w1 ⟨rfl, n, rfl⟩
      go_wp2_with fail
      refine (cR.out _ (hT'.out.below (belowN hf0 n)) (hE'.out.below (belowN hf0 n)) (shape_below hSh (belowN hf0 n))).mono ?_
      rintro e w2 ⟨la, lcap, rfl, hlc, b2⟩
      have B2 := below2 (belowN hf0 n) b2
      have hR2 := hR0.out.below ((belowN (Below.refl _ _) n).trans b2)
      clear b2 hf0
      obtain ⟨⟨c0, c1, c2, c3, c4, c5⟩, f0, f1, f2, f3, f4, f5⟩ := hR2.facts
      go_wp2
      exact bodyPost_ret (v := .tuple #[.agg #[.string ⟨#[]⟩, .int .i64 0, .int .i64 0, .int .i64 0, .int .i64 0, .int .i64 0], .bool false]) (by simp [results, Tryd.results40, go_sem, c0, c1, c2, c3, c4, c5, f0, f1, f2, f3, f4, f5]) rfl ⟨by rw [hr.out], ((((((B2.setCell (p := ⟨w.heap.size, 0, none⟩) (Nat.le_refl _) _).setCell (p := ⟨w.heap.size, 1, none⟩) (Nat.le_refl _) _).setCell (p := ⟨w.heap.size, 2, none⟩) (Nat.le_refl _) _).setCell (p := ⟨w.heap.size, 3, none⟩) (Nat.le_refl _) _).setCell (p := ⟨w.heap.size, 4, none⟩) (Nat.le_refl _) _).setCell (p := ⟨w.heap.size, 5, none⟩) (Nat.le_refl _) _)⟩
    obtain ⟨a, b, c, d, f, rfl⟩ : ∃ a b c d f, Z = [a, b, c, d, f] := by
      match Z, h5 with
      | [a, b, c, d, f], _ => exact ⟨a, b, c, d, f, rfl⟩
    have hq2 : Hid (plkO s.data.toList = if plkB ⟨A, a, b, c, d, f⟩ = true then some ⟨A, a, b, c, d, f⟩ else none) := Lib.hid (by rw [hq.out, plkOf_yes ho, hA'])
    have cR : Hid (∀ W, TabP W → ErrsAt W → W.ShapedOpen Tryd.prog → Calls Tryd.prog 81 #[.string B] W fun e w' => ∃ g cap, e = .returned (.tuple #[.slice (some ⟨g, 0, none⟩) 5 cap, .bool true]) ∧ 5 ≤ cap ∧ g < w'.heap.size ∧ (w'.cell? ⟨g, 0, none⟩ = some (.int .i64 a) ∧ w'.cell? ⟨g, 1, none⟩ = some (.int .i64 b) ∧ w'.cell? ⟨g, 2, none⟩ = some (.int .i64 c) ∧ w'.cell? ⟨g, 3, none⟩ = some (.int .i64 d) ∧ w'.cell? ⟨g, 4, none⟩ = some (.int .i64 f)) ∧ Below W.heap.size W w') := Lib.hid (fun W h1 h2 h3 => (implReadList_any B W hBs h1 h2 h3).mono fun e w' h => by
      rw [hB, ho] at h
      obtain ⟨v, he, hown, hb⟩ := h
      obtain ⟨g, cap, rfl, k1, k2, k3⟩ := row_five hown
      exact ⟨g, cap, he, k1, k2, k3, hb⟩)
    have cV0 : ∀ W, Calls Tryd.prog 77 #[.agg #[.string A, .int .i64 a, .int .i64 b, .int .i64 c, .int .i64 d, .int .i64 f]] W fun e w' => e = .returned (.bool (plkB ⟨A, a, b, c, d, f⟩)) ∧ Below W.heap.size W w' := fun W => implValidPlank_any A a b c d f (by unfold maxLen; omega) W
    clear cR0 ho hq hA hB hA' h5
    cases hv : plkB ⟨A, a, b, c, d, f⟩
    · have hr : Hid (plkVal (plkO s.data.toList) = .tuple #[.agg #[.string ⟨#[]⟩, .int .i64 0, .int .i64 0, .int .i64 0, .int .i64 0, .int .i64 0], .bool false]) := Lib.hid (by rw [hq2.out, hv]; rfl)
      rw [hv] at cV0
      have cV := Lib.hid cV0
      clear cV0 hv hq2
      go_enter Tryd.func40, Tryd.ntmps40
      go_wp2_with fail
      refine (cC.out _ hSh0).mono ?_
      rintro e w1 ⟨rfl, n, rfl⟩
      go_wp2_with fail
      refine (cR.out _ (hT'.out.below (belowN hf0 n)) (hE'.out.below (belowN hf0 n)) (shape_below hSh (belowN hf0 n))).mono ?_
      rintro e w2 ⟨g, lcap, rfl, hlc, hg, hP, b2⟩
      have B2 := below2 (belowN hf0 n) b2
      have hR2 := hR0.out.below ((belowN (Below.refl _ _) n).trans b2)
      clear b2 hf0
      have keep : ∀ W1 W2, ((W1.cell? ⟨g, 0, none⟩ = some (.int .i64 a) ∧ W1.cell? ⟨g, 1, none⟩ = some (.int .i64 b) ∧ W1.cell? ⟨g, 2, none⟩ = some (.int .i64 c) ∧ W1.cell? ⟨g, 3, none⟩ = some (.int .i64 d) ∧ W1.cell? ⟨g, 4, none⟩ = some (.int .i64 f)) ∧ (ResAt W1 w.heap.size ∧ Below w2.heap.size w2 W1)) → Below W1.heap.size W1 W2 → ((W2.cell? ⟨g, 0, none⟩ = some (.int .i64 a) ∧ W2.cell? ⟨g, 1, none⟩ = some (.int .i64 b) ∧ W2.cell? ⟨g, 2, none⟩ = some (.int .i64 c) ∧ W2.cell? ⟨g, 3, none⟩ = some (.int .i64 d) ∧ W2.cell? ⟨g, 4, none⟩ = some (.int .i64 f)) ∧ (ResAt W2 w.heap.size ∧ Below w2.heap.size w2 W2)) := fun W1 W2 h1 h2 => by
        obtain ⟨⟨p0, p1, p2, p3, p4⟩, hr, hb⟩ := h1
        have hl := Nat.lt_of_lt_of_le hg hb.size
        exact ⟨⟨(h2.cell hl).trans p0, (h2.cell hl).trans p1, (h2.cell hl).trans p2, (h2.cell hl).trans p3, (h2.cell hl).trans p4⟩, hr.below h2, hb.trans (h2.mono hb.size)⟩
      have keepH := Lib.hid keep
      have hS : (w2.cell? ⟨g, 0, none⟩ = some (.int .i64 a) ∧ w2.cell? ⟨g, 1, none⟩ = some (.int .i64 b) ∧ w2.cell? ⟨g, 2, none⟩ = some (.int .i64 c) ∧ w2.cell? ⟨g, 3, none⟩ = some (.int .i64 d) ∧ w2.cell? ⟨g, 4, none⟩ = some (.int .i64 f)) ∧ (ResAt w2 w.heap.size ∧ Below w2.heap.size w2 w2) := ⟨hP, hR2, Below.refl _ _⟩
      clear keep hP hR2
      go_wp2
      go_region_held3 (fun w' => ((w'.cell? ⟨g, 0, none⟩ = some (.int .i64 a) ∧ w'.cell? ⟨g, 1, none⟩ = some (.int .i64 b) ∧ w'.cell? ⟨g, 2, none⟩ = some (.int .i64 c) ∧ w'.cell? ⟨g, 3, none⟩ = some (.int .i64 d) ∧ w'.cell? ⟨g, 4, none⟩ = some (.int .i64 f)) ∧ (ResAt w' w.heap.size ∧ Below w2.heap.size w2 w')))
        (first | exact ⟨hS.1, hS.2.1, belowN hS.2.2 1⟩ | exact keepH.out _ _ (by assumption) (fresh_b _ _) | exact keepH.out _ _ (by assumption) (belowN (fresh_b _ _) 1) | exact keepH.out w2 _ hS (belowN (fresh_b _ _) 1) | exact keepH.out _ _ (by assumption) (by assumption) | assumption)
        (fail)
      rename_i hHeld
      have hRx := hHeld.2.1
      have hBx := B2.trans (hHeld.2.2.mono B2.size)
      have hPx : ((w2.alloc (.cells #[.string A, .int .i64 a, .int .i64 b, .int .i64 c, .int .i64 d, .int .i64 f] 35)).drew.cell? ⟨w2.heap.size, 0, none⟩ = some (.string A) ∧ (w2.alloc (.cells #[.string A, .int .i64 a, .int .i64 b, .int .i64 c, .int .i64 d, .int .i64 f] 35)).drew.cell? ⟨w2.heap.size, 1, none⟩ = some (.int .i64 a) ∧ (w2.alloc (.cells #[.string A, .int .i64 a, .int .i64 b, .int .i64 c, .int .i64 d, .int .i64 f] 35)).drew.cell? ⟨w2.heap.size, 2, none⟩ = some (.int .i64 b) ∧ (w2.alloc (.cells #[.string A, .int .i64 a, .int .i64 b, .int .i64 c, .int .i64 d, .int .i64 f] 35)).drew.cell? ⟨w2.heap.size, 3, none⟩ = some (.int .i64 c) ∧ (w2.alloc (.cells #[.string A, .int .i64 a, .int .i64 b, .int .i64 c, .int .i64 d, .int .i64 f] 35)).drew.cell? ⟨w2.heap.size, 4, none⟩ = some (.int .i64 d) ∧ (w2.alloc (.cells #[.string A, .int .i64 a, .int .i64 b, .int .i64 c, .int .i64 d, .int .i64 f] 35)).drew.cell? ⟨w2.heap.size, 5, none⟩ = some (.int .i64 f)) := box_cells A a b c d f w2 _ (belowN (Below.refl _ (w2.alloc (.cells #[.string A, .int .i64 a, .int .i64 b, .int .i64 c, .int .i64 d, .int .i64 f] 35))) 1)
      have hGx : w2.heap.size < (w2.alloc (.cells #[.string A, .int .i64 a, .int .i64 b, .int .i64 c, .int .i64 d, .int .i64 f] 35)).drew.heap.size := by simp
      clear hHeld hS keepH B2
      generalize (w2.alloc (.cells #[.string A, .int .i64 a, .int .i64 b, .int .i64 c, .int .i64 d, .int .i64 f] 35)).drew = w4 at hRx hBx hPx hGx ⊢
      generalize w2.heap.size = G at hPx hGx ⊢
      obtain ⟨x0, x1, x2, x3, x4, x5⟩ := hPx
      go_wp2_with fail
      refine (cV.out _).mono ?_
      rintro e w5 ⟨rfl, b5⟩
      have B2 := hBx.trans (b5.mono hBx.size)
      have hR5 := hRx.below b5
      have y0 := (b5.cell (p := ⟨G, 0, none⟩) hGx).trans x0
      have y1 := (b5.cell (p := ⟨G, 1, none⟩) hGx).trans x1
      have y2 := (b5.cell (p := ⟨G, 2, none⟩) hGx).trans x2
      have y3 := (b5.cell (p := ⟨G, 3, none⟩) hGx).trans x3
      have y4 := (b5.cell (p := ⟨G, 4, none⟩) hGx).trans x4
      have y5 := (b5.cell (p := ⟨G, 5, none⟩) hGx).trans x5
      clear x0 x1 x2 x3 x4 x5 b5 hRx hBx hGx
      obtain ⟨⟨c0, c1, c2, c3, c4, c5⟩, f0, f1, f2, f3, f4, f5⟩ := hR5.facts
      go_wp2
      exact bodyPost_ret (v := .tuple #[.agg #[.string ⟨#[]⟩, .int .i64 0, .int .i64 0, .int .i64 0, .int .i64 0, .int .i64 0], .bool false]) (by simp [results, Tryd.results40, go_sem, c0, c1, c2, c3, c4, c5, f0, f1, f2, f3, f4, f5]) rfl ⟨by rw [hr.out], ((((((B2.setCell (p := ⟨w.heap.size, 0, none⟩) (Nat.le_refl _) _).setCell (p := ⟨w.heap.size, 1, none⟩) (Nat.le_refl _) _).setCell (p := ⟨w.heap.size, 2, none⟩) (Nat.le_refl _) _).setCell (p := ⟨w.heap.size, 3, none⟩) (Nat.le_refl _) _).setCell (p := ⟨w.heap.size, 4, none⟩) (Nat.le_refl _) _).setCell (p := ⟨w.heap.size, 5, none⟩) (Nat.le_refl _) _)⟩
    · have hr : Hid (plkVal (plkO s.data.toList) = .tuple #[.agg #[.string A, .int .i64 a, .int .i64 b, .int .i64 c, .int .i64 d, .int .i64 f], .bool true]) := Lib.hid (by rw [hq2.out, if_pos hv]; rfl)
      rw [hv] at cV0
      have cV := Lib.hid cV0
      clear cV0 hv hq2
      go_enter Tryd.func40, Tryd.ntmps40
      go_wp2_with fail
      refine (cC.out _ hSh0).mono ?_
      rintro e w1 ⟨rfl, n, rfl⟩
      go_wp2_with fail
      refine (cR.out _ (hT'.out.below (belowN hf0 n)) (hE'.out.below (belowN hf0 n)) (shape_below hSh (belowN hf0 n))).mono ?_
      rintro e w2 ⟨g, lcap, rfl, hlc, hg, hP, b2⟩
      have B2 := below2 (belowN hf0 n) b2
      have hR2 := hR0.out.below ((belowN (Below.refl _ _) n).trans b2)
      clear b2 hf0
      have keep : ∀ W1 W2, ((W1.cell? ⟨g, 0, none⟩ = some (.int .i64 a) ∧ W1.cell? ⟨g, 1, none⟩ = some (.int .i64 b) ∧ W1.cell? ⟨g, 2, none⟩ = some (.int .i64 c) ∧ W1.cell? ⟨g, 3, none⟩ = some (.int .i64 d) ∧ W1.cell? ⟨g, 4, none⟩ = some (.int .i64 f)) ∧ (ResAt W1 w.heap.size ∧ Below w2.heap.size w2 W1)) → Below W1.heap.size W1 W2 → ((W2.cell? ⟨g, 0, none⟩ = some (.int .i64 a) ∧ W2.cell? ⟨g, 1, none⟩ = some (.int .i64 b) ∧ W2.cell? ⟨g, 2, none⟩ = some (.int .i64 c) ∧ W2.cell? ⟨g, 3, none⟩ = some (.int .i64 d) ∧ W2.cell? ⟨g, 4, none⟩ = some (.int .i64 f)) ∧ (ResAt W2 w.heap.size ∧ Below w2.heap.size w2 W2)) := fun W1 W2 h1 h2 => by
        obtain ⟨⟨p0, p1, p2, p3, p4⟩, hr, hb⟩ := h1
        have hl := Nat.lt_of_lt_of_le hg hb.size
        exact ⟨⟨(h2.cell hl).trans p0, (h2.cell hl).trans p1, (h2.cell hl).trans p2, (h2.cell hl).trans p3, (h2.cell hl).trans p4⟩, hr.below h2, hb.trans (h2.mono hb.size)⟩
      have keepH := Lib.hid keep
      have hS : (w2.cell? ⟨g, 0, none⟩ = some (.int .i64 a) ∧ w2.cell? ⟨g, 1, none⟩ = some (.int .i64 b) ∧ w2.cell? ⟨g, 2, none⟩ = some (.int .i64 c) ∧ w2.cell? ⟨g, 3, none⟩ = some (.int .i64 d) ∧ w2.cell? ⟨g, 4, none⟩ = some (.int .i64 f)) ∧ (ResAt w2 w.heap.size ∧ Below w2.heap.size w2 w2) := ⟨hP, hR2, Below.refl _ _⟩
      clear keep hP hR2
      go_wp2
      go_region_held3 (fun w' => ((w'.cell? ⟨g, 0, none⟩ = some (.int .i64 a) ∧ w'.cell? ⟨g, 1, none⟩ = some (.int .i64 b) ∧ w'.cell? ⟨g, 2, none⟩ = some (.int .i64 c) ∧ w'.cell? ⟨g, 3, none⟩ = some (.int .i64 d) ∧ w'.cell? ⟨g, 4, none⟩ = some (.int .i64 f)) ∧ (ResAt w' w.heap.size ∧ Below w2.heap.size w2 w')))
        (first | exact ⟨hS.1, hS.2.1, belowN hS.2.2 1⟩ | exact keepH.out _ _ (by assumption) (fresh_b _ _) | exact keepH.out _ _ (by assumption) (belowN (fresh_b _ _) 1) | exact keepH.out w2 _ hS (belowN (fresh_b _ _) 1) | exact keepH.out _ _ (by assumption) (by assumption) | assumption)
        (fail)
      rename_i hHeld
      have hRx := hHeld.2.1
      have hBx := B2.trans (hHeld.2.2.mono B2.size)
      have hPx : ((w2.alloc (.cells #[.string A, .int .i64 a, .int .i64 b, .int .i64 c, .int .i64 d, .int .i64 f] 35)).drew.cell? ⟨w2.heap.size, 0, none⟩ = some (.string A) ∧ (w2.alloc (.cells #[.string A, .int .i64 a, .int .i64 b, .int .i64 c, .int .i64 d, .int .i64 f] 35)).drew.cell? ⟨w2.heap.size, 1, none⟩ = some (.int .i64 a) ∧ (w2.alloc (.cells #[.string A, .int .i64 a, .int .i64 b, .int .i64 c, .int .i64 d, .int .i64 f] 35)).drew.cell? ⟨w2.heap.size, 2, none⟩ = some (.int .i64 b) ∧ (w2.alloc (.cells #[.string A, .int .i64 a, .int .i64 b, .int .i64 c, .int .i64 d, .int .i64 f] 35)).drew.cell? ⟨w2.heap.size, 3, none⟩ = some (.int .i64 c) ∧ (w2.alloc (.cells #[.string A, .int .i64 a, .int .i64 b, .int .i64 c, .int .i64 d, .int .i64 f] 35)).drew.cell? ⟨w2.heap.size, 4, none⟩ = some (.int .i64 d) ∧ (w2.alloc (.cells #[.string A, .int .i64 a, .int .i64 b, .int .i64 c, .int .i64 d, .int .i64 f] 35)).drew.cell? ⟨w2.heap.size, 5, none⟩ = some (.int .i64 f)) := box_cells A a b c d f w2 _ (belowN (Below.refl _ (w2.alloc (.cells #[.string A, .int .i64 a, .int .i64 b, .int .i64 c, .int .i64 d, .int .i64 f] 35))) 1)
      have hGx : w2.heap.size < (w2.alloc (.cells #[.string A, .int .i64 a, .int .i64 b, .int .i64 c, .int .i64 d, .int .i64 f] 35)).drew.heap.size := by simp
      clear hHeld hS keepH B2
      generalize (w2.alloc (.cells #[.string A, .int .i64 a, .int .i64 b, .int .i64 c, .int .i64 d, .int .i64 f] 35)).drew = w4 at hRx hBx hPx hGx ⊢
      generalize w2.heap.size = G at hPx hGx ⊢
      obtain ⟨x0, x1, x2, x3, x4, x5⟩ := hPx
      go_wp2_with fail
      refine (cV.out _).mono ?_
      rintro e w5 ⟨rfl, b5⟩
      have B2 := hBx.trans (b5.mono hBx.size)
      have hR5 := hRx.below b5
      have y0 := (b5.cell (p := ⟨G, 0, none⟩) hGx).trans x0
      have y1 := (b5.cell (p := ⟨G, 1, none⟩) hGx).trans x1
      have y2 := (b5.cell (p := ⟨G, 2, none⟩) hGx).trans x2
      have y3 := (b5.cell (p := ⟨G, 3, none⟩) hGx).trans x3
      have y4 := (b5.cell (p := ⟨G, 4, none⟩) hGx).trans x4
      have y5 := (b5.cell (p := ⟨G, 5, none⟩) hGx).trans x5
      clear x0 x1 x2 x3 x4 x5 b5 hRx hBx hGx
      obtain ⟨⟨c0, c1, c2, c3, c4, c5⟩, f0, f1, f2, f3, f4, f5⟩ := hR5.facts
      go_wp2
      exact bodyPost_ret (v := .tuple #[.agg #[.string A, .int .i64 a, .int .i64 b, .int .i64 c, .int .i64 d, .int .i64 f], .bool true]) (by simp [results, Tryd.results40, go_sem, c0, c1, c2, c3, c4, c5, f0, f1, f2, f3, f4, f5]) rfl ⟨by rw [hr.out], ((((((B2.setCell (p := ⟨w.heap.size, 0, none⟩) (Nat.le_refl _) _).setCell (p := ⟨w.heap.size, 1, none⟩) (Nat.le_refl _) _).setCell (p := ⟨w.heap.size, 2, none⟩) (Nat.le_refl _) _).setCell (p := ⟨w.heap.size, 3, none⟩) (Nat.le_refl _) _).setCell (p := ⟨w.heap.size, 4, none⟩) (Nat.le_refl _) _).setCell (p := ⟨w.heap.size, 5, none⟩) (Nat.le_refl _) _)⟩
end Go.Proofs.YtglpmdoigoicbaaDoor
