/-
  Contracts of the program's reader of stacks.
-/
import Derived.Test.YtjgpckocmjolmaaGreatDoorStkIn
import Derived.Test.YtjgpckocmjolmaaGreatDoorReadListI
import Derived.Test.YtjgpckocmjolmaaGreatDoorReadNum
import Derived.Test.YtjgpckocmjolmaaGreatDoorPartsI
import Derived.Test.YtjgpckocmjolmaaGreatDoorReadsI2
import Derived.Test.YtjgpckocmjolmaaGreatDoorMonth
import Derived.Deep.RegionHeld3
namespace Go.Proofs.YtjgpckocmjolmaaGreatDoor
open Go.ChangeShapes Go.WideShapes Go.ChangeAt Go.RowKit
set_option linter.unusedVariables false
set_option linter.unusedSimpArgs false
def stkOf (p q r : List UInt8) : Option Stk :=
  match readL q, dateR r with
  | some [a, b], some c => if stkB ⟨⟨p.toArray⟩, a, b, c⟩ = true then some ⟨⟨p.toArray⟩, a, b, c⟩ else none
  | _, _ => none
/-- the stack with a text -/
def stkO (l : List UInt8) : Option Stk :=
  match splitL 32 l with
  | [p, q, r] => stkOf p q r
  | _ => none
/-- a stack and true, or the zero stack and false -/
def stkVal (o : Option Stk) : Value :=
  match o with
  | none => .tuple #[.agg #[.string ⟨#[]⟩, .int .i64 0, .int .i64 0, .int .i64 0], .bool false]
  | some x => .tuple #[.agg #[.string x.id, .int .i64 x.moi, .int .i64 x.thk, .int .i64 x.sin], .bool true]
theorem stkO_no {l : List UInt8} (h : (splitL 32 l).length ≠ 3) : stkO l = none := by
  unfold stkO
  split
  · rename_i p q r e; rw [e] at h; exact absurd rfl h
  · rfl
theorem stkO_three {l p q r : List UInt8} (h : splitL 32 l = [p, q, r]) : stkO l = stkOf p q r := by
  unfold stkO; rw [h]
theorem stkOf_list {p q r : List UInt8} (h : readL q = none) : stkOf p q r = none := by
  unfold stkOf; rw [h]
theorem stkOf_date {p q r : List UInt8} (h : dateR r = none) : stkOf p q r = none := by
  unfold stkOf; rw [h]
  split
  · rename_i e; cases e
  · rfl
theorem stkOf_two {p q r : List UInt8} {Z : List Int} (h : readL q = some Z) (h2 : Z.length ≠ 2) : stkOf p q r = none := by
  unfold stkOf; rw [h]
  split
  · rename_i e _; cases e; exact absurd rfl h2
  · rfl
theorem stkOf_m {p q r : List UInt8} (h : readM q 2 = none) : stkOf p q r = none := by
  rcases readM_no h with h | ⟨Z, h, hl⟩
  · exact stkOf_list h
  · exact stkOf_two h hl
theorem stkOf_yes {p q r : List UInt8} {a b c : Int} (h : readL q = some [a, b]) (hd : dateR r = some c) : stkOf p q r = if stkB ⟨⟨p.toArray⟩, a, b, c⟩ = true then some ⟨⟨p.toArray⟩, a, b, c⟩ else none := by
  unfold stkOf; rw [h, hd]
/-- the block of a result -/
def ResAt (w : World) (g : Nat) : Prop := w.heap[g]? = some (.cells #[.string ⟨#[]⟩, .int .i64 0, .int .i64 0, .int .i64 0] 23 (0, 0))
theorem ResAt.facts {w : World} {g : Nat} (h : ResAt w g) : (w.cell? ⟨g, 0, none⟩ = some (.string ⟨#[]⟩) ∧ w.cell? ⟨g, 1, none⟩ = some (.int .i64 0) ∧ w.cell? ⟨g, 2, none⟩ = some (.int .i64 0) ∧ w.cell? ⟨g, 3, none⟩ = some (.int .i64 0)) ∧ (w.frozen? ⟨g, 0, none⟩ = false ∧ w.frozen? ⟨g, 1, none⟩ = false ∧ w.frozen? ⟨g, 2, none⟩ = false ∧ w.frozen? ⟨g, 3, none⟩ = false) :=
  ⟨⟨cellB h 0 _ rfl, cellB h 1 _ rfl, cellB h 2 _ rfl, cellB h 3 _ rfl⟩, freeB h 0, freeB h 1, freeB h 2, freeB h 3⟩
theorem ResAt.below {w w' : World} {g : Nat} (h : ResAt w g) (hb : Below w.heap.size w w') : ResAt w' g := by
  have hl : g < w.heap.size := (Array.getElem?_eq_some_iff.1 h).1
  exact (hb.block g hl).trans h
theorem ResAt.start (w : World) : ResAt (w.alloc (.cells #[.string ⟨#[]⟩, .int .i64 0, .int .i64 0, .int .i64 0] 23)) w.heap.size := heap_alloc_new _ _
/-- what a list of numbers hands back, opened -/
theorem lret_open {o : Option (List Int)} {w w' : World} {e : Ending} (h : LRet o w e w') (hz : ∀ Z, o = some Z → ∀ n ∈ Z, inI n) : (o = none ∧ e = .returned (.tuple #[.slice none 0 0, .bool false]) ∧ Below w.heap.size w w') ∨ ∃ Z v, o = some Z ∧ e = .returned (.tuple #[v, .bool true]) ∧ IntsAt w' v Z ∧ Below w.heap.size w w' := by
  cases o with
  | none => exact Or.inl ⟨rfl, h.1, h.2⟩
  | some Z =>
    obtain ⟨v, he, ho, hb⟩ := h
    exact Or.inr ⟨Z, v, rfl, he, ints_own ho (hz Z rfl), hb⟩
theorem readL_in {l : List UInt8} {Z : List Int} (h : readL l = some Z) : ∀ n ∈ Z, inI n := by
  unfold readL at h
  split at h
  · cases h; intro n hn; cases hn
  · split at h
    · cases h
    · intro n hn
      have := readParts_in h n hn
      unfold inI; omega
theorem readL_len {l : List UInt8} {Z : List Int} (h : readL l = some Z) : Z.length ≤ 64 := by
  unfold readL at h
  split at h
  · cases h; simp
  · split at h
    · cases h
    · have := readParts_len h; omega
theorem row_ab {w : World} {B : Nat} {v : Value} {a b : Int} (h : w.ownsRow B 2 1 v 2 [.int .i64 a, .int .i64 b]) : ∃ g cap, v = .slice (some ⟨g, 0, none⟩) 2 cap ∧ 2 ≤ cap ∧ g < w.heap.size ∧ (w.cell? ⟨g, 0, none⟩ = some (.int .i64 a) ∧ w.cell? ⟨g, 1, none⟩ = some (.int .i64 b)) := by
  have h0 := h
  rcases h.2 with ⟨h1, h2⟩ | ⟨g, cap, cur, hv, hg, hb, hn, hcap, _, _⟩
  · omega
  · subst hv
    exact ⟨g, cap, rfl, hn, (h0.lt g rfl).2, by rw [h0.cellAt 0 (by omega)]; rfl, by rw [h0.cellAt 1 (by omega)]; rfl⟩
theorem fresh_b (w : World) (o : Obj) : Below w.heap.size w (w.alloc o) := (Below.refl _ _).alloc (Nat.le_refl _) _
theorem box_cells (s : ByteArray) (a b c : Int) (w w1 : World) (hb : Below (w.alloc (.cells #[.string s, .int .i64 a, .int .i64 b, .int .i64 c] 23)).heap.size (w.alloc (.cells #[.string s, .int .i64 a, .int .i64 b, .int .i64 c] 23)) w1) :
    w1.cell? ⟨w.heap.size, 0, none⟩ = some (.string s) ∧ w1.cell? ⟨w.heap.size, 1, none⟩ = some (.int .i64 a) ∧ w1.cell? ⟨w.heap.size, 2, none⟩ = some (.int .i64 b) ∧ w1.cell? ⟨w.heap.size, 3, none⟩ = some (.int .i64 c) :=
  have hl : w.heap.size < (w.alloc (.cells #[.string s, .int .i64 a, .int .i64 b, .int .i64 c] 23)).heap.size := by simp
  ⟨(hb.cell hl).trans (cellB (heap_alloc_new _ _) 0 _ rfl), (hb.cell hl).trans (cellB (heap_alloc_new _ _) 1 _ rfl), (hb.cell hl).trans (cellB (heap_alloc_new _ _) 2 _ rfl), (hb.cell hl).trans (cellB (heap_alloc_new _ _) 3 _ rfl)⟩
set_option maxHeartbeats 3200000 in
set_option maxRecDepth 1000000 in
theorem implReadStack_any (s : ByteArray) (w : World) (hs : s.size ≤ 1048576) (hT : TabP w) (hE : ErrsAt w) (hSh : w.ShapedOpen Tryz.prog) :
    Calls Tryz.prog 5 #[.string s] w fun e w' => e = .returned (stkVal (stkO s.data.toList)) ∧ Below w.heap.size w w' := by
  have hlen := splitL_len 32 s.data.toList
  rw [len_data] at hlen
  have hf0 := fresh_b w (.cells #[.string ⟨#[]⟩, .int .i64 0, .int .i64 0, .int .i64 0] 23)
  have hR0 := Lib.hid (ResAt.start w)
  have hSh0 := shape_below hSh hf0
  have hT' := Lib.hid hT
  have hE' := Lib.hid hE
  obtain ⟨hiff, hMle⟩ := cutM_len 32 3 s
  have hc0 := fun W h0 => cut_any 32 3 4 rfl (by omega) s W hs h0
  clear hT hE
  by_cases h3 : (splitL 32 s.data.toList).length = 3
  rotate_left
  · have hr : Hid (stkVal (stkO s.data.toList) = .tuple #[.agg #[.string ⟨#[]⟩, .int .i64 0, .int .i64 0, .int .i64 0], .bool false]) := Lib.hid (by rw [stkO_no h3]; rfl)
    obtain ⟨M, hM⟩ : ∃ M, M = (cutM 32 3 s).length := ⟨_, rfl⟩
    have hMn : M ≠ 3 := by rw [hM]; exact fun h => h3 (hiff.1 h)
    have hM4 : M ≤ 4 := by rw [hM]; exact hMle
    have cS : Hid (∀ W, W.ShapedOpen Tryz.prog → Calls Tryz.prog 8 #[.string s, .string ⟨#[32]⟩, .int .i64 4] W fun e w' => ∃ a cap, e = .returned (.slice a M cap) ∧ M ≤ cap ∧ Below W.heap.size W w') := Lib.hid (fun W h0 => (hc0 W h0).mono fun e w' ⟨cap, he, hc, hb, _⟩ => ⟨_, cap, by rw [hM]; exact he, by rw [hM]; exact hc, hb⟩)
    clear hM hiff hMle
    have t0 : ((M : Int) == 3) = false := by rw [beq_eq_false_iff_ne]; omega
    have u0 : ((M : Int) != 3) = true := by unfold bne; rw [t0]; rfl
    clear hc0 h3 hMn hlen
    go_enter Tryz.func5, Tryz.ntmps5
    go_wp2_with fail
    refine (cS.out _ hSh0).mono ?_
    rintro e w2 ⟨a, cap, rfl, hcap, b2⟩
    have B9 := hf0.trans (b2.mono hf0.size)
    have hR2 := hR0.out.below b2
    clear b2 hf0
    obtain ⟨⟨c0, c1, c2, c3⟩, f0, f1, f2, f3⟩ := hR2.facts
    go_wp2
    exact bodyPost_ret (v := .tuple #[.agg #[.string ⟨#[]⟩, .int .i64 0, .int .i64 0, .int .i64 0], .bool false]) (by simp [results, Tryz.results5, go_sem, c0, c1, c2, c3, f0, f1, f2, f3]) rfl ⟨by rw [hr.out], ((((B9.setCell (p := ⟨w.heap.size, 0, none⟩) (Nat.le_refl _) _).setCell (p := ⟨w.heap.size, 1, none⟩) (Nat.le_refl _) _).setCell (p := ⟨w.heap.size, 2, none⟩) (Nat.le_refl _) _).setCell (p := ⟨w.heap.size, 3, none⟩) (Nat.le_refl _) _)⟩
  obtain ⟨p, q, r, hpq⟩ : ∃ p q r, splitL 32 s.data.toList = [p, q, r] := by
    match h : splitL 32 s.data.toList, h3 with
    | [p, q, r], _ => exact ⟨p, q, r, rfl⟩
  have hq := Lib.hid (stkO_three hpq)
  have hpl := fun x hx => part_len 32 _ s.data.toList (Nat.le_refl _) x hx
  have hall := cutM_all 32 3 s (by omega)
  have hM3 := hiff.2 h3
  rw [hpq] at hall
  rw [hpq] at hpl
  have lp := hpl p (by simp)
  have lq := hpl q (by simp)
  have lr := hpl r (by simp)
  rw [len_data] at lp lq lr
  clear h3 hpq hpl hlen
  obtain ⟨A, hA⟩ : ∃ A : ByteArray, A = ⟨p.toArray⟩ := ⟨_, rfl⟩
  obtain ⟨B, hB⟩ : ∃ B : ByteArray, B = ⟨q.toArray⟩ := ⟨_, rfl⟩
  obtain ⟨C, hC⟩ : ∃ C : ByteArray, C = ⟨r.toArray⟩ := ⟨_, rfl⟩
  have hAl : A.data.toList = p := by rw [hA]
  have hBl : B.data.toList = q := by rw [hB]
  have hCl : C.data.toList = r := by rw [hC]
  have hAm : A.size ≤ maxLen := by unfold maxLen; rw [← len_data, hAl]; omega
  have hBs : B.size ≤ 1048576 := by rw [← len_data, hBl]; omega
  have hCs : C.size ≤ 1048576 := by rw [← len_data, hCl]; omega
  have cS : Hid (∀ W, W.ShapedOpen Tryz.prog → Calls Tryz.prog 8 #[.string s, .string ⟨#[32]⟩, .int .i64 4] W fun e w' => ∃ g cap, e = .returned (.slice (some ⟨g, 0, none⟩) 3 cap) ∧ 3 ≤ cap ∧ g < w'.heap.size ∧ w'.cell? ⟨g, 0, none⟩ = some (.string A) ∧ w'.cell? ⟨g, 1, none⟩ = some (.string B) ∧ w'.cell? ⟨g, 2, none⟩ = some (.string C) ∧ Below W.heap.size W w') := Lib.hid (fun W h0 => (hc0 W h0).mono fun e w' h => by
    obtain ⟨cap, he, hc, hb, hg, hcell⟩ := h
    have hX : ∀ j (hj : j < (cutM 32 3 s).length) (x : List UInt8) (X : ByteArray), [p, q, r][j]? = some x → X.data.toList = x → w'.cell? ⟨W.heap.size, j, none⟩ = some (.string X) := by
      intro j hj x X h1 h2
      rw [hcell j hj]
      have h4 : ((cutM 32 3 s).map (·.data.toList))[j]? = [p, q, r][j]? := by rw [hall]
      rw [List.getElem?_map, List.getElem?_eq_getElem hj, h1] at h4
      have h5 : (cutM 32 3 s)[j].data.toList = x := Option.some.inj h4
      have h6 : (cutM 32 3 s)[j] = X := by
        have e1 := bytes_of (cutM 32 3 s)[j] x h5
        have e2 := bytes_of X x h2
        rw [e1, e2]
      rw [h6]
    refine ⟨W.heap.size, cap, by rw [hM3] at he; exact he, by omega, hg, hX 0 (by omega) p A rfl hAl, hX 1 (by omega) q B rfl hBl, hX 2 (by omega) r C rfl hCl, hb⟩)
  clear hiff hMle hall hM3
  have cR0 := fun W h1 h2 h3 => (readNumbers_any B 2 W (by omega) hBs h1 h2 h3).mono fun e w' h => lret_open (o := readM B.data.toList 2) h (fun Z h => readL_in (readM_some h).1)
  have cD0 := fun W h1 h2 h3 => implReadDate_any C W hCs h1 h2 h3
  rw [hBl] at cR0
  rw [hCl] at cD0
  have cR2 : ∀ a b, readM q 2 = some [a, b] → ∀ W, TabP W → ErrsAt W → W.ShapedOpen Tryz.prog → Calls Tryz.prog 9 #[.string B, .int .i64 2] W fun e w' => ∃ g cap, e = .returned (.tuple #[.slice (some ⟨g, 0, none⟩) 2 cap, .bool true]) ∧ 2 ≤ cap ∧ g < w'.heap.size ∧ (w'.cell? ⟨g, 0, none⟩ = some (.int .i64 a) ∧ w'.cell? ⟨g, 1, none⟩ = some (.int .i64 b)) ∧ Below W.heap.size W w' := fun a b ho W h1 h2 h3 => (readNumbers_any B 2 W (by omega) hBs h1 h2 h3).mono fun e w' h => by
    rw [hBl, ho] at h
    obtain ⟨v, he, hown, hb⟩ := h
    obtain ⟨g, cap, rfl, k1, k2, k3⟩ := row_ab hown
    exact ⟨g, cap, he, k1, k2, k3, hb⟩
  clear hc0 lp lq lr hAl hBl hCl
  cases ho : readM q 2 with
  | none =>
    have hr : Hid (stkVal (stkO s.data.toList) = .tuple #[.agg #[.string ⟨#[]⟩, .int .i64 0, .int .i64 0, .int .i64 0], .bool false]) := Lib.hid (by rw [hq.out, stkOf_m ho]; rfl)
    have cR : Hid (∀ W, TabP W → ErrsAt W → W.ShapedOpen Tryz.prog → Calls Tryz.prog 9 #[.string B, .int .i64 2] W fun e w' => e = .returned (.tuple #[.slice none 0 0, .bool false]) ∧ Below W.heap.size W w') := Lib.hid (fun W h1 h2 h3 => (cR0 W h1 h2 h3).mono fun e w' h => by
      rcases h with ⟨_, h4, h5⟩ | ⟨Z, v, h4, _⟩
      · exact ⟨h4, h5⟩
      · rw [ho] at h4; cases h4)
    obtain ⟨d, bb, hdb⟩ : ∃ d bb, optV (dateR r) = .tuple #[.int .i64 d, .bool bb] := by
      cases dateR r with
      | none => exact ⟨0, false, rfl⟩
      | some n => exact ⟨n, true, rfl⟩
    rw [hdb] at cD0
    have cD := Lib.hid cD0
    clear cD0 cR0 cR2 ho hq hA hB hC hdb
    cases bb
    · go_enter Tryz.func5, Tryz.ntmps5
      go_wp2_with fail
      refine (cS.out _ hSh0).mono ?_
      rintro e w1 ⟨h, hcap, rfl, hhc, hh, s0, s1, s2, b1⟩
      have B1 := hf0.trans (b1.mono hf0.size)
      have hR1 := hR0.out.below b1
      clear b1 hf0
      go_wp2_with fail
      refine (cR.out _ (hT'.out.below B1) (hE'.out.below B1) (shape_below hSh B1)).mono ?_
      rintro e w2 ⟨rfl, b2⟩
      have B2 := B1.trans (b2.mono B1.size)
      have hR2 := hR1.below b2
      have hh2 : h < w2.heap.size := Nat.lt_of_lt_of_le hh b2.size
      have s0' := (b2.cell (p := ⟨h, 0, none⟩) hh).trans s0
      have s2' := (b2.cell (p := ⟨h, 2, none⟩) hh).trans s2
      clear s0 s1 s2 b2 B1 hR1
      go_wp2_with fail
      refine (cD.out _ (hT'.out.below B2) (hE'.out.below B2) (shape_below hSh B2)).mono ?_
      rintro e w3 ⟨rfl, b3⟩
      have B3 := B2.trans (b3.mono B2.size)
      have hR3 := hR2.below b3
      have hh3 : h < w3.heap.size := Nat.lt_of_lt_of_le hh2 b3.size
      have s0 := (b3.cell (p := ⟨h, 0, none⟩) hh2).trans s0'
      clear s0' s2' b3 B2 hR2
      have B9 := B3
      obtain ⟨⟨c0, c1, c2, c3⟩, f0, f1, f2, f3⟩ := hR3.facts
      go_wp2
      exact bodyPost_ret (v := .tuple #[.agg #[.string ⟨#[]⟩, .int .i64 0, .int .i64 0, .int .i64 0], .bool false]) (by simp [results, Tryz.results5, go_sem, c0, c1, c2, c3, f0, f1, f2, f3]) rfl ⟨by rw [hr.out], ((((B9.setCell (p := ⟨w.heap.size, 0, none⟩) (Nat.le_refl _) _).setCell (p := ⟨w.heap.size, 1, none⟩) (Nat.le_refl _) _).setCell (p := ⟨w.heap.size, 2, none⟩) (Nat.le_refl _) _).setCell (p := ⟨w.heap.size, 3, none⟩) (Nat.le_refl _) _)⟩
    · go_enter Tryz.func5, Tryz.ntmps5
      go_wp2_with fail
      refine (cS.out _ hSh0).mono ?_
      rintro e w1 ⟨h, hcap, rfl, hhc, hh, s0, s1, s2, b1⟩
      have B1 := hf0.trans (b1.mono hf0.size)
      have hR1 := hR0.out.below b1
      clear b1 hf0
      go_wp2_with fail
      refine (cR.out _ (hT'.out.below B1) (hE'.out.below B1) (shape_below hSh B1)).mono ?_
      rintro e w2 ⟨rfl, b2⟩
      have B2 := B1.trans (b2.mono B1.size)
      have hR2 := hR1.below b2
      have hh2 : h < w2.heap.size := Nat.lt_of_lt_of_le hh b2.size
      have s0' := (b2.cell (p := ⟨h, 0, none⟩) hh).trans s0
      have s2' := (b2.cell (p := ⟨h, 2, none⟩) hh).trans s2
      clear s0 s1 s2 b2 B1 hR1
      go_wp2_with fail
      refine (cD.out _ (hT'.out.below B2) (hE'.out.below B2) (shape_below hSh B2)).mono ?_
      rintro e w3 ⟨rfl, b3⟩
      have B3 := B2.trans (b3.mono B2.size)
      have hR3 := hR2.below b3
      have hh3 : h < w3.heap.size := Nat.lt_of_lt_of_le hh2 b3.size
      have s0 := (b3.cell (p := ⟨h, 0, none⟩) hh2).trans s0'
      clear s0' s2' b3 B2 hR2
      have B9 := B3
      obtain ⟨⟨c0, c1, c2, c3⟩, f0, f1, f2, f3⟩ := hR3.facts
      go_wp2
      exact bodyPost_ret (v := .tuple #[.agg #[.string ⟨#[]⟩, .int .i64 0, .int .i64 0, .int .i64 0], .bool false]) (by simp [results, Tryz.results5, go_sem, c0, c1, c2, c3, f0, f1, f2, f3]) rfl ⟨by rw [hr.out], ((((B9.setCell (p := ⟨w.heap.size, 0, none⟩) (Nat.le_refl _) _).setCell (p := ⟨w.heap.size, 1, none⟩) (Nat.le_refl _) _).setCell (p := ⟨w.heap.size, 2, none⟩) (Nat.le_refl _) _).setCell (p := ⟨w.heap.size, 3, none⟩) (Nat.le_refl _) _)⟩
  | some Z =>
    cases hd : dateR r with
    | none =>
      have hr : Hid (stkVal (stkO s.data.toList) = .tuple #[.agg #[.string ⟨#[]⟩, .int .i64 0, .int .i64 0, .int .i64 0], .bool false]) := Lib.hid (by rw [hq.out, stkOf_date hd]; rfl)
      obtain ⟨N, hN⟩ : ∃ N, N = Z.length := ⟨_, rfl⟩
      have cR : Hid (∀ W, TabP W → ErrsAt W → W.ShapedOpen Tryz.prog → Calls Tryz.prog 9 #[.string B, .int .i64 2] W fun e w' => ∃ a cap, e = .returned (.tuple #[.slice a N cap, .bool true]) ∧ N ≤ cap ∧ Below W.heap.size W w') := Lib.hid (fun W h1 h2 h3 => (cR0 W h1 h2 h3).mono fun e w' h => by
        rcases h with ⟨h4, _⟩ | ⟨Z', v, h4, h6, h7, h8⟩
        · rw [ho] at h4; cases h4
        · rw [ho] at h4; cases h4
          obtain ⟨a, cap, rfl, hc, _⟩ := h7
          exact ⟨a, cap, by rw [hN]; exact h6, by rw [hN]; exact hc, h8⟩)
      have hN64 : N ≤ 64 := by rw [hN]; exact readL_len (readM_some ho).1
      rw [hd] at cD0
      have cD : Hid (∀ W, TabP W → ErrsAt W → W.ShapedOpen Tryz.prog → Calls Tryz.prog 10 #[.string C] W fun e w' => e = .returned (.tuple #[.int .i64 0, .bool false]) ∧ Below W.heap.size W w') := Lib.hid cD0
      clear cD0 cR0 cR2 ho hq hA hB hC hN hd
      go_enter Tryz.func5, Tryz.ntmps5
      go_wp2_with fail
      refine (cS.out _ hSh0).mono ?_
      rintro e w1 ⟨h, hcap, rfl, hhc, hh, s0, s1, s2, b1⟩
      have B1 := hf0.trans (b1.mono hf0.size)
      have hR1 := hR0.out.below b1
      clear b1 hf0
      go_wp2_with fail
      refine (cR.out _ (hT'.out.below B1) (hE'.out.below B1) (shape_below hSh B1)).mono ?_
      rintro e w2 ⟨la, lcap, rfl, hlc, b2⟩
      have B2 := B1.trans (b2.mono B1.size)
      have hR2 := hR1.below b2
      have hh2 : h < w2.heap.size := Nat.lt_of_lt_of_le hh b2.size
      have s0' := (b2.cell (p := ⟨h, 0, none⟩) hh).trans s0
      have s2' := (b2.cell (p := ⟨h, 2, none⟩) hh).trans s2
      clear s0 s1 s2 b2 B1 hR1
      go_wp2_with fail
      refine (cD.out _ (hT'.out.below B2) (hE'.out.below B2) (shape_below hSh B2)).mono ?_
      rintro e w3 ⟨rfl, b3⟩
      have B3 := B2.trans (b3.mono B2.size)
      have hR3 := hR2.below b3
      have hh3 : h < w3.heap.size := Nat.lt_of_lt_of_le hh2 b3.size
      have s0 := (b3.cell (p := ⟨h, 0, none⟩) hh2).trans s0'
      clear s0' s2' b3 B2 hR2
      have B9 := B3
      obtain ⟨⟨c0, c1, c2, c3⟩, f0, f1, f2, f3⟩ := hR3.facts
      go_wp2
      exact bodyPost_ret (v := .tuple #[.agg #[.string ⟨#[]⟩, .int .i64 0, .int .i64 0, .int .i64 0], .bool false]) (by simp [results, Tryz.results5, go_sem, c0, c1, c2, c3, f0, f1, f2, f3]) rfl ⟨by rw [hr.out], ((((B9.setCell (p := ⟨w.heap.size, 0, none⟩) (Nat.le_refl _) _).setCell (p := ⟨w.heap.size, 1, none⟩) (Nat.le_refl _) _).setCell (p := ⟨w.heap.size, 2, none⟩) (Nat.le_refl _) _).setCell (p := ⟨w.heap.size, 3, none⟩) (Nat.le_refl _) _)⟩
    | some c =>
      rw [hd] at cD0
      have cD : Hid (∀ W, TabP W → ErrsAt W → W.ShapedOpen Tryz.prog → Calls Tryz.prog 10 #[.string C] W fun e w' => e = .returned (.tuple #[.int .i64 c, .bool true]) ∧ Below W.heap.size W w') := Lib.hid cD0
      clear cD0
      have h5 := (readM_some ho).2
      obtain ⟨a, b, rfl⟩ : ∃ a b, Z = [a, b] := by
        match Z, h5 with
        | [a, b], _ => exact ⟨a, b, rfl⟩
      have hq2 : Hid (stkO s.data.toList = if stkB ⟨A, a, b, c⟩ = true then some ⟨A, a, b, c⟩ else none) := Lib.hid (by rw [hq.out, stkOf_yes (readM_some ho).1 hd, hA])
      have cR := Lib.hid (cR2 a b ho)
      clear cR0 cR2 ho hq hA hB hC h5 hd
      cases hv : stkB ⟨A, a, b, c⟩
      · have hr : Hid (stkVal (stkO s.data.toList) = .tuple #[.agg #[.string ⟨#[]⟩, .int .i64 0, .int .i64 0, .int .i64 0], .bool false]) := Lib.hid (by rw [hq2.out, hv]; rfl)
        clear hq2
        have cV0 : ∀ W, Calls Tryz.prog 11 #[.agg #[.string A, .int .i64 a, .int .i64 b, .int .i64 c]] W fun e w' => e = .returned (.bool (stkB ⟨A, a, b, c⟩)) ∧ Below W.heap.size W w' := fun W => isValid_any A a b c hAm W
        rw [hv] at cV0
        have cV := Lib.hid cV0
        clear cV0
        go_enter Tryz.func5, Tryz.ntmps5
        go_wp2_with fail
        refine (cS.out _ hSh0).mono ?_
        rintro e w1 ⟨h, hcap, rfl, hhc, hh, s0, s1, s2, b1⟩
        have B1 := hf0.trans (b1.mono hf0.size)
        have hR1 := hR0.out.below b1
        clear b1 hf0
        go_wp2_with fail
        refine (cR.out _ (hT'.out.below B1) (hE'.out.below B1) (shape_below hSh B1)).mono ?_
        rintro e w2 ⟨g, lcap, rfl, hlc, hg, hP, b2⟩
        have B2 := B1.trans (b2.mono B1.size)
        have hR2 := hR1.below b2
        have hh2 : h < w2.heap.size := Nat.lt_of_lt_of_le hh b2.size
        have s0' := (b2.cell (p := ⟨h, 0, none⟩) hh).trans s0
        have s2' := (b2.cell (p := ⟨h, 2, none⟩) hh).trans s2
        clear s0 s1 s2 b2 B1 hR1
        go_wp2_with fail
        refine (cD.out _ (hT'.out.below B2) (hE'.out.below B2) (shape_below hSh B2)).mono ?_
        rintro e w3 ⟨rfl, b3⟩
        have B3 := B2.trans (b3.mono B2.size)
        have hR3 := hR2.below b3
        have hh3 : h < w3.heap.size := Nat.lt_of_lt_of_le hh2 b3.size
        have s0 := (b3.cell (p := ⟨h, 0, none⟩) hh2).trans s0'
        have hg3 : g < w3.heap.size := Nat.lt_of_lt_of_le hg b3.size
        have g0 := (b3.cell (p := ⟨g, 0, none⟩) hg).trans hP.1
        have g1 := (b3.cell (p := ⟨g, 1, none⟩) hg).trans hP.2
        clear s0' s2' b3 B2 hR2 hP hg hh2
        have keep : ∀ W1 W2, ((W1.cell? ⟨h, 0, none⟩ = some (.string A) ∧ W1.cell? ⟨g, 0, none⟩ = some (.int .i64 a) ∧ W1.cell? ⟨g, 1, none⟩ = some (.int .i64 b)) ∧ (ResAt W1 w.heap.size ∧ Below w3.heap.size w3 W1)) → Below W1.heap.size W1 W2 → ((W2.cell? ⟨h, 0, none⟩ = some (.string A) ∧ W2.cell? ⟨g, 0, none⟩ = some (.int .i64 a) ∧ W2.cell? ⟨g, 1, none⟩ = some (.int .i64 b)) ∧ (ResAt W2 w.heap.size ∧ Below w3.heap.size w3 W2)) := fun W1 W2 h1 h2 => by
          obtain ⟨⟨p5, p0, p1⟩, hr, hb⟩ := h1
          have hl := Nat.lt_of_lt_of_le hg3 hb.size
          have hl2 := Nat.lt_of_lt_of_le hh3 hb.size
          exact ⟨⟨(h2.cell hl2).trans p5, (h2.cell hl).trans p0, (h2.cell hl).trans p1⟩, hr.below h2, hb.trans (h2.mono hb.size)⟩
        have keepH := Lib.hid keep
        have hS : (w3.cell? ⟨h, 0, none⟩ = some (.string A) ∧ w3.cell? ⟨g, 0, none⟩ = some (.int .i64 a) ∧ w3.cell? ⟨g, 1, none⟩ = some (.int .i64 b)) ∧ (ResAt w3 w.heap.size ∧ Below w3.heap.size w3 w3) := ⟨⟨s0, g0, g1⟩, hR3, Below.refl _ _⟩
        clear keep g0 g1 hR3 s0
        go_wp2
        go_region_held3 (fun w' => ((w'.cell? ⟨h, 0, none⟩ = some (.string A) ∧ w'.cell? ⟨g, 0, none⟩ = some (.int .i64 a) ∧ w'.cell? ⟨g, 1, none⟩ = some (.int .i64 b)) ∧ (ResAt w' w.heap.size ∧ Below w3.heap.size w3 w')))
          (first | exact ⟨hS.1, hS.2.1, belowN hS.2.2 1⟩ | exact keepH.out _ _ (by assumption) (fresh_b _ _) | exact keepH.out _ _ (by assumption) (belowN (fresh_b _ _) 1) | exact keepH.out w3 _ hS (belowN (fresh_b _ _) 1) | exact keepH.out _ _ (by assumption) (by assumption) | assumption)
          (fail)
        rename_i hHeld
        have hRx := hHeld.2.1
        have hBx := B3.trans (hHeld.2.2.mono B3.size)
        have hPx : ((w3.alloc (.cells #[.string A, .int .i64 a, .int .i64 b, .int .i64 c] 23)).drew.cell? ⟨w3.heap.size, 0, none⟩ = some (.string A) ∧ (w3.alloc (.cells #[.string A, .int .i64 a, .int .i64 b, .int .i64 c] 23)).drew.cell? ⟨w3.heap.size, 1, none⟩ = some (.int .i64 a) ∧ (w3.alloc (.cells #[.string A, .int .i64 a, .int .i64 b, .int .i64 c] 23)).drew.cell? ⟨w3.heap.size, 2, none⟩ = some (.int .i64 b) ∧ (w3.alloc (.cells #[.string A, .int .i64 a, .int .i64 b, .int .i64 c] 23)).drew.cell? ⟨w3.heap.size, 3, none⟩ = some (.int .i64 c)) := box_cells A a b c w3 _ (belowN (Below.refl _ (w3.alloc (.cells #[.string A, .int .i64 a, .int .i64 b, .int .i64 c] 23))) 1)
        have hGx : w3.heap.size < (w3.alloc (.cells #[.string A, .int .i64 a, .int .i64 b, .int .i64 c] 23)).drew.heap.size := by simp
        clear hHeld hS keepH B3
        generalize (w3.alloc (.cells #[.string A, .int .i64 a, .int .i64 b, .int .i64 c] 23)).drew = w4 at hRx hBx hPx hGx ⊢
        generalize w3.heap.size = G at hPx hGx ⊢
        obtain ⟨x0, x1, x2, x3⟩ := hPx
        go_wp2_with fail
        refine (cV.out _).mono ?_
        rintro e w5 ⟨rfl, b5⟩
        have B9 := hBx.trans (b5.mono hBx.size)
        have hR5 := hRx.below b5
        have y0 := (b5.cell (p := ⟨G, 0, none⟩) hGx).trans x0
        have y1 := (b5.cell (p := ⟨G, 1, none⟩) hGx).trans x1
        have y2 := (b5.cell (p := ⟨G, 2, none⟩) hGx).trans x2
        have y3 := (b5.cell (p := ⟨G, 3, none⟩) hGx).trans x3
        clear x0 x1 x2 x3 b5 hRx hBx hGx
        obtain ⟨⟨c0, c1, c2, c3⟩, f0, f1, f2, f3⟩ := hR5.facts
        go_wp2
        exact bodyPost_ret (v := .tuple #[.agg #[.string ⟨#[]⟩, .int .i64 0, .int .i64 0, .int .i64 0], .bool false]) (by simp [results, Tryz.results5, go_sem, c0, c1, c2, c3, f0, f1, f2, f3]) rfl ⟨by rw [hr.out], ((((B9.setCell (p := ⟨w.heap.size, 0, none⟩) (Nat.le_refl _) _).setCell (p := ⟨w.heap.size, 1, none⟩) (Nat.le_refl _) _).setCell (p := ⟨w.heap.size, 2, none⟩) (Nat.le_refl _) _).setCell (p := ⟨w.heap.size, 3, none⟩) (Nat.le_refl _) _)⟩
      · have hr : Hid (stkVal (stkO s.data.toList) = .tuple #[.agg #[.string A, .int .i64 a, .int .i64 b, .int .i64 c], .bool true]) := Lib.hid (by rw [hq2.out, if_pos hv]; rfl)
        clear hq2
        have cV0 : ∀ W, Calls Tryz.prog 11 #[.agg #[.string A, .int .i64 a, .int .i64 b, .int .i64 c]] W fun e w' => e = .returned (.bool (stkB ⟨A, a, b, c⟩)) ∧ Below W.heap.size W w' := fun W => isValid_any A a b c hAm W
        rw [hv] at cV0
        have cV := Lib.hid cV0
        clear cV0
        go_enter Tryz.func5, Tryz.ntmps5
        go_wp2_with fail
        refine (cS.out _ hSh0).mono ?_
        rintro e w1 ⟨h, hcap, rfl, hhc, hh, s0, s1, s2, b1⟩
        have B1 := hf0.trans (b1.mono hf0.size)
        have hR1 := hR0.out.below b1
        clear b1 hf0
        go_wp2_with fail
        refine (cR.out _ (hT'.out.below B1) (hE'.out.below B1) (shape_below hSh B1)).mono ?_
        rintro e w2 ⟨g, lcap, rfl, hlc, hg, hP, b2⟩
        have B2 := B1.trans (b2.mono B1.size)
        have hR2 := hR1.below b2
        have hh2 : h < w2.heap.size := Nat.lt_of_lt_of_le hh b2.size
        have s0' := (b2.cell (p := ⟨h, 0, none⟩) hh).trans s0
        have s2' := (b2.cell (p := ⟨h, 2, none⟩) hh).trans s2
        clear s0 s1 s2 b2 B1 hR1
        go_wp2_with fail
        refine (cD.out _ (hT'.out.below B2) (hE'.out.below B2) (shape_below hSh B2)).mono ?_
        rintro e w3 ⟨rfl, b3⟩
        have B3 := B2.trans (b3.mono B2.size)
        have hR3 := hR2.below b3
        have hh3 : h < w3.heap.size := Nat.lt_of_lt_of_le hh2 b3.size
        have s0 := (b3.cell (p := ⟨h, 0, none⟩) hh2).trans s0'
        have hg3 : g < w3.heap.size := Nat.lt_of_lt_of_le hg b3.size
        have g0 := (b3.cell (p := ⟨g, 0, none⟩) hg).trans hP.1
        have g1 := (b3.cell (p := ⟨g, 1, none⟩) hg).trans hP.2
        clear s0' s2' b3 B2 hR2 hP hg hh2
        have keep : ∀ W1 W2, ((W1.cell? ⟨h, 0, none⟩ = some (.string A) ∧ W1.cell? ⟨g, 0, none⟩ = some (.int .i64 a) ∧ W1.cell? ⟨g, 1, none⟩ = some (.int .i64 b)) ∧ (ResAt W1 w.heap.size ∧ Below w3.heap.size w3 W1)) → Below W1.heap.size W1 W2 → ((W2.cell? ⟨h, 0, none⟩ = some (.string A) ∧ W2.cell? ⟨g, 0, none⟩ = some (.int .i64 a) ∧ W2.cell? ⟨g, 1, none⟩ = some (.int .i64 b)) ∧ (ResAt W2 w.heap.size ∧ Below w3.heap.size w3 W2)) := fun W1 W2 h1 h2 => by
          obtain ⟨⟨p5, p0, p1⟩, hr, hb⟩ := h1
          have hl := Nat.lt_of_lt_of_le hg3 hb.size
          have hl2 := Nat.lt_of_lt_of_le hh3 hb.size
          exact ⟨⟨(h2.cell hl2).trans p5, (h2.cell hl).trans p0, (h2.cell hl).trans p1⟩, hr.below h2, hb.trans (h2.mono hb.size)⟩
        have keepH := Lib.hid keep
        have hS : (w3.cell? ⟨h, 0, none⟩ = some (.string A) ∧ w3.cell? ⟨g, 0, none⟩ = some (.int .i64 a) ∧ w3.cell? ⟨g, 1, none⟩ = some (.int .i64 b)) ∧ (ResAt w3 w.heap.size ∧ Below w3.heap.size w3 w3) := ⟨⟨s0, g0, g1⟩, hR3, Below.refl _ _⟩
        clear keep g0 g1 hR3 s0
        go_wp2
        go_region_held3 (fun w' => ((w'.cell? ⟨h, 0, none⟩ = some (.string A) ∧ w'.cell? ⟨g, 0, none⟩ = some (.int .i64 a) ∧ w'.cell? ⟨g, 1, none⟩ = some (.int .i64 b)) ∧ (ResAt w' w.heap.size ∧ Below w3.heap.size w3 w')))
          (first | exact ⟨hS.1, hS.2.1, belowN hS.2.2 1⟩ | exact keepH.out _ _ (by assumption) (fresh_b _ _) | exact keepH.out _ _ (by assumption) (belowN (fresh_b _ _) 1) | exact keepH.out w3 _ hS (belowN (fresh_b _ _) 1) | exact keepH.out _ _ (by assumption) (by assumption) | assumption)
          (fail)
        rename_i hHeld
        have hRx := hHeld.2.1
        have hBx := B3.trans (hHeld.2.2.mono B3.size)
        have hPx : ((w3.alloc (.cells #[.string A, .int .i64 a, .int .i64 b, .int .i64 c] 23)).drew.cell? ⟨w3.heap.size, 0, none⟩ = some (.string A) ∧ (w3.alloc (.cells #[.string A, .int .i64 a, .int .i64 b, .int .i64 c] 23)).drew.cell? ⟨w3.heap.size, 1, none⟩ = some (.int .i64 a) ∧ (w3.alloc (.cells #[.string A, .int .i64 a, .int .i64 b, .int .i64 c] 23)).drew.cell? ⟨w3.heap.size, 2, none⟩ = some (.int .i64 b) ∧ (w3.alloc (.cells #[.string A, .int .i64 a, .int .i64 b, .int .i64 c] 23)).drew.cell? ⟨w3.heap.size, 3, none⟩ = some (.int .i64 c)) := box_cells A a b c w3 _ (belowN (Below.refl _ (w3.alloc (.cells #[.string A, .int .i64 a, .int .i64 b, .int .i64 c] 23))) 1)
        have hGx : w3.heap.size < (w3.alloc (.cells #[.string A, .int .i64 a, .int .i64 b, .int .i64 c] 23)).drew.heap.size := by simp
        clear hHeld hS keepH B3
        generalize (w3.alloc (.cells #[.string A, .int .i64 a, .int .i64 b, .int .i64 c] 23)).drew = w4 at hRx hBx hPx hGx ⊢
        generalize w3.heap.size = G at hPx hGx ⊢
        obtain ⟨x0, x1, x2, x3⟩ := hPx
        go_wp2_with fail
        refine (cV.out _).mono ?_
        rintro e w5 ⟨rfl, b5⟩
        have B9 := hBx.trans (b5.mono hBx.size)
        have hR5 := hRx.below b5
        have y0 := (b5.cell (p := ⟨G, 0, none⟩) hGx).trans x0
        have y1 := (b5.cell (p := ⟨G, 1, none⟩) hGx).trans x1
        have y2 := (b5.cell (p := ⟨G, 2, none⟩) hGx).trans x2
        have y3 := (b5.cell (p := ⟨G, 3, none⟩) hGx).trans x3
        clear x0 x1 x2 x3 b5 hRx hBx hGx
        obtain ⟨⟨c0, c1, c2, c3⟩, f0, f1, f2, f3⟩ := hR5.facts
        go_wp2
        exact bodyPost_ret (v := .tuple #[.agg #[.string A, .int .i64 a, .int .i64 b, .int .i64 c], .bool true]) (by simp [results, Tryz.results5, go_sem, c0, c1, c2, c3, f0, f1, f2, f3]) rfl ⟨by rw [hr.out], ((((B9.setCell (p := ⟨w.heap.size, 0, none⟩) (Nat.le_refl _) _).setCell (p := ⟨w.heap.size, 1, none⟩) (Nat.le_refl _) _).setCell (p := ⟨w.heap.size, 2, none⟩) (Nat.le_refl _) _).setCell (p := ⟨w.heap.size, 3, none⟩) (Nat.le_refl _) _)⟩
end Go.Proofs.YtjgpckocmjolmaaGreatDoor
