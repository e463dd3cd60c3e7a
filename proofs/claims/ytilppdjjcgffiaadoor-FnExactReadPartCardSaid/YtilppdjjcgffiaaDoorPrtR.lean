/-
  Readers of parts: the program's and the model's contracts.
-/
import Derived.Test.YtilppdjjcgffiaaDoorPrtT
namespace Go.Proofs.YtilppdjjcgffiaaDoor
open Go.ChangeShapes Go.WideShapes Go.ChangeAt Go.RowKit Go.Deep
set_option linter.unusedVariables false
set_option linter.unusedSimpArgs false
set_option maxRecDepth 1000000
theorem cut_casesB (b0 : UInt8) (l : List UInt8) : ((Lib.cut l [b0]).2.1 = [] ∧ ∀ a b, splitL b0 l ≠ [a, b]) ∨ ∃ r, (Lib.cut l [b0]).2.1 = r ∧ ((b0 ∈ r ∧ ∀ a b, splitL b0 l ≠ [a, b]) ∨ splitL b0 l = [(Lib.cut l [b0]).1, r]) := by
  by_cases hi : Lib.index l [b0] = -1
  · left
    have hn := idx_none b0 l hi
    refine ⟨?_, fun a b h => ?_⟩
    · unfold Lib.cut; rw [hi]; rfl
    · rw [splitL_miss b0 l hn] at h; simp at h
  · right
    obtain ⟨i, hi'⟩ : ∃ i : Nat, Lib.index l [b0] = i := ⟨(Lib.index l [b0]).toNat, by have := Lib.index_ge l [b0]; omega⟩
    obtain ⟨e, hx⟩ := idx_some b0 l i hi'
    have c1 : (Lib.cut l [b0]).1 = l.take i := by unfold Lib.cut; rw [hi']; simp
    have c2 : (Lib.cut l [b0]).2.1 = l.drop (i + 1) := by unfold Lib.cut; rw [hi']; simp
    have hs : splitL b0 l = l.take i :: splitL b0 (l.drop (i + 1)) := by
      conv => lhs; rw [e]
      rw [splitL_hit b0 _ _ hx]
    refine ⟨l.drop (i + 1), c2, ?_⟩
    by_cases hm : b0 ∈ l.drop (i + 1)
    · left
      refine ⟨hm, fun a b h => ?_⟩
      rw [hs] at h
      injection h with _ h2
      rcases split_cases b0 (l.drop (i + 1)) with ⟨_, h3⟩ | ⟨x, r, _, _, h3⟩
      · exact h3 _ hm rfl
      · rw [h3] at h2
        injection h2 with _ h4
        have := splitL_pos' b0 r
        rw [h4] at this; simp at this
    · right
      rw [hs, c1, splitL_miss b0 _ (fun c hc e => hm (e ▸ hc))]
theorem cut_mem {c b0 : UInt8} {l : List UInt8} (h : c ∈ l) (hne : c ≠ b0) : c ∈ (Lib.cut l [b0]).1 ∨ c ∈ (Lib.cut l [b0]).2.1 := by
  by_cases hi : Lib.index l [b0] = -1
  · left
    unfold Lib.cut; rw [hi]; exact h
  · obtain ⟨i, hi'⟩ : ∃ i : Nat, Lib.index l [b0] = i := ⟨(Lib.index l [b0]).toNat, by have := Lib.index_ge l [b0]; omega⟩
    obtain ⟨e, hx⟩ := idx_some b0 l i hi'
    have c1 : (Lib.cut l [b0]).1 = l.take i := by unfold Lib.cut; rw [hi']; simp
    have c2 : (Lib.cut l [b0]).2.1 = l.drop (i + 1) := by unfold Lib.cut; rw [hi']; simp
    rw [c1, c2]
    rw [e] at h
    rcases List.mem_append.1 h with h2 | h2
    · exact Or.inl h2
    · rcases List.mem_cons.1 h2 with h3 | h3
      · exact absurd h3 hne
      · exact Or.inr h3
theorem cut_nil (b0 : UInt8) : (Lib.cut [] [b0]).1 = [] := by
  by_cases hi : Lib.index [] [b0] = -1
  · unfold Lib.cut; rw [hi]; rfl
  · obtain ⟨i, hi'⟩ : ∃ i : Nat, Lib.index [] [b0] = i := ⟨(Lib.index [] [b0]).toNat, by have := Lib.index_ge [] [b0]; omega⟩
    unfold Lib.cut; rw [hi']; simp
theorem readD_nil : readD [] = none := readD_bad (Or.inl rfl)
/-- a part out of an Id and two texts of numbers -/
def prtQ (p x y : List UInt8) : Option Prt :=
  match readD x, readD y with
  | some b, some a => if prtB ⟨⟨p.toArray⟩, a, b⟩ = true then some ⟨⟨p.toArray⟩, a, b⟩ else none
  | _, _ => none
/-- the part with a text -/
def prtO (l : List UInt8) : Option Prt := prtQ (Lib.cut l [32]).1 (Lib.cut (Lib.cut l [32]).2.1 [64]).1 (Lib.cut (Lib.cut l [32]).2.1 [64]).2.1
theorem prtQ_no1 {p x y : List UInt8} (h : readD x = none) : prtQ p x y = none := by unfold prtQ; rw [h]
theorem prtQ_no2 {p x y : List UInt8} (h : readD y = none) : prtQ p x y = none := by unfold prtQ; rw [h]; split <;> simp_all
theorem prtQ_yes {p x y : List UInt8} {a b : Int} (h1 : readD x = some b) (h2 : readD y = some a) : prtQ p x y = if prtB ⟨⟨p.toArray⟩, a, b⟩ = true then some ⟨⟨p.toArray⟩, a, b⟩ else none := by unfold prtQ; rw [h1, h2]
theorem prtO_no1 {l : List UInt8} (h : ∀ p q, splitL 32 l ≠ [p, q]) : prtO l = none := by
  unfold prtO
  rcases cut_casesB 32 l with ⟨h1, _⟩ | ⟨r, h1, h2 | h2⟩
  · rw [h1, cut_nil]; exact prtQ_no1 readD_nil
  · rw [h1]
    rcases cut_mem (b0 := 64) h2.1 (by decide) with h3 | h3
    · exact prtQ_no1 (readD_blank (c := 32) (by decide) (by decide) h3)
    · exact prtQ_no2 (readD_blank (c := 32) (by decide) (by decide) h3)
  · exact absurd h2 (h _ _)
theorem prtO_two {l p q : List UInt8} (h : splitL 32 l = [p, q]) : prtO l = prtQ p (Lib.cut q [64]).1 (Lib.cut q [64]).2.1 := by
  unfold prtO
  rcases cut_casesB 32 l with ⟨_, h1⟩ | ⟨r, h1, h2 | h2⟩
  · exact absurd h (h1 _ _)
  · exact absurd h (h2.2 _ _)
  · rw [h] at h2
    injection h2 with e1 e2
    injection e2 with e3
    rw [h1, ← e1, ← e3]
theorem prtQ_no {p q : List UInt8} (h : ∀ x y, splitL 64 q ≠ [x, y]) : prtQ p (Lib.cut q [64]).1 (Lib.cut q [64]).2.1 = none := by
  rcases cut_casesB 64 q with ⟨h1, _⟩ | ⟨r, h1, h2 | h2⟩
  · rw [h1]; exact prtQ_no2 readD_nil
  · rw [h1]; exact prtQ_no2 (readD_blank (c := 64) (by decide) (by decide) h2.1)
  · exact absurd h2 (h _ _)
theorem prtQ_two {p q x y : List UInt8} (h : splitL 64 q = [x, y]) : prtQ p (Lib.cut q [64]).1 (Lib.cut q [64]).2.1 = prtQ p x y := by
  rcases cut_casesB 64 q with ⟨_, h1⟩ | ⟨r, h1, h2 | h2⟩
  · exact absurd h (h1 _ _)
  · exact absurd h (h2.2 _ _)
  · rw [h] at h2
    injection h2 with e1 e2
    injection e2 with e3
    rw [h1, ← e1, ← e3]
def prtVal (o : Option Prt) : Value :=
  match o with
  | none => .tuple #[.agg #[.string ⟨#[]⟩, .int .i64 0, .int .i64 0], .bool false]
  | some x => .tuple #[.agg #[.string x.id, .int .i64 x.plc, .int .i64 x.mas], .bool true]
/-- a text cut in two at a byte -/
theorem cutB_any (b0 : UInt8) (s : ByteArray) (hs : s.size ≤ 1048576) : ∃ A B : ByteArray, A.data.toList = (Lib.cut s.data.toList [b0]).1 ∧ B.data.toList = (Lib.cut s.data.toList [b0]).2.1 ∧ A.size ≤ 1048576 ∧ B.size ≤ 1048576 ∧ ∃ b, Hid (∀ W, W.ShapedOpen Tryd.prog → Calls Tryd.prog 27 #[.string s, .string ⟨#[b0]⟩] W fun e w' => e = .returned (.tuple #[.string A, .string B, .bool b]) ∧ ∃ n, w' = W.drewN n) := by
  have hsz : (Lib.cut s.data.toList [b0]).1.length ≤ 1048576 ∧ (Lib.cut s.data.toList [b0]).2.1.length ≤ 1048576 := by
    unfold Lib.cut
    split
    · exact ⟨by show (s.data.toList.take _).length ≤ _; rw [List.length_take, len_data]; omega, by show (s.data.toList.drop _).length ≤ _; rw [List.length_drop, len_data]; omega⟩
    · exact ⟨by rw [len_data]; omega, by simp⟩
  exact ⟨⟨(Lib.cut s.data.toList [b0]).1.toArray⟩, ⟨(Lib.cut s.data.toList [b0]).2.1.toArray⟩, rfl, rfl, by rw [← len_data]; exact hsz.1, by rw [← len_data]; exact hsz.2, (Lib.cut s.data.toList [b0]).2.2, Lib.hid (fun W h => Tryd.strings_Cut_shaped s ⟨#[b0]⟩ W h (by omega))⟩
/-- the block of a result -/
def PrtRes (w : World) (g : Nat) : Prop := w.heap[g]? = some (.cells #[.string ⟨#[]⟩, .int .i64 0, .int .i64 0] 26 (0, 0))
theorem PrtRes.facts {w : World} {g : Nat} (h : PrtRes w g) : (w.cell? ⟨g, 0, none⟩ = some (.string ⟨#[]⟩) ∧ w.cell? ⟨g, 1, none⟩ = some (.int .i64 0) ∧ w.cell? ⟨g, 2, none⟩ = some (.int .i64 0)) ∧ (w.frozen? ⟨g, 0, none⟩ = false ∧ w.frozen? ⟨g, 1, none⟩ = false ∧ w.frozen? ⟨g, 2, none⟩ = false) :=
  ⟨⟨cellB h 0 _ rfl, cellB h 1 _ rfl, cellB h 2 _ rfl⟩, freeB h 0, freeB h 1, freeB h 2⟩
theorem PrtRes.below {w w' : World} {g : Nat} (h : PrtRes w g) (hb : Below w.heap.size w w') : PrtRes w' g := by
  have hl : g < w.heap.size := (Array.getElem?_eq_some_iff.1 h).1
  exact (hb.block g hl).trans h
theorem PrtRes.start (w : World) : PrtRes (w.alloc (.cells #[.string ⟨#[]⟩, .int .i64 0, .int .i64 0] 26)) w.heap.size := heap_alloc_new _ _
set_option maxHeartbeats 6400000 in
theorem implReadPart_any (s : ByteArray) (w : World) (hs : s.size ≤ 1048576) (hT : TabP w) (hE : ErrsAt w) (hSh : w.ShapedOpen Tryd.prog) :
    Calls Tryd.prog 12 #[.string s] w fun e w' => e = .returned (prtVal (prtO s.data.toList)) ∧ Below w.heap.size w w' := by
  have hf0 := fresh_b w (.cells #[.string ⟨#[]⟩, .int .i64 0, .int .i64 0] 26)
  have hR0 := Lib.hid (PrtRes.start w)
  obtain ⟨A, B, hA, hB, hAs, hBs, bb, cC⟩ := cutB_any 32 s hs
  obtain ⟨C, D, hC, hD, hCs, hDs, bd, cD⟩ := cutB_any 64 B hBs
  have hq0 : prtO s.data.toList = prtQ A.data.toList C.data.toList D.data.toList := by unfold prtO; rw [hA, ← hB, hC, hD]
  have hq := Lib.hid hq0
  have cX0 := fun W (hW : Below w.heap.size w W) => implReadDecimal_any C W hCs (hT.below hW) (hE.below hW)
  have cY0 := fun W (hW : Below w.heap.size w W) => implReadDecimal_any D W hDs (hT.below hW) (hE.below hW)
  have hAb := bytes_of A _ rfl
  have hAm : A.size ≤ maxLen := by unfold maxLen; omega
  clear hA hB hC hD hq0
  cases h1 : readD C.data.toList with
  | none =>
    have hr : Hid (prtVal (prtO s.data.toList) = .tuple #[.agg #[.string ⟨#[]⟩, .int .i64 0, .int .i64 0], .bool false]) := Lib.hid (by rw [hq.out, prtQ_no1 h1]; rfl)
    rw [h1] at cX0
    cases h2 : readD D.data.toList with
    | none =>
      rw [h2] at cY0
      simp only [optV] at cX0 cY0
      have cX := Lib.hid cX0
      have cY := Lib.hid cY0
      clear cX0 cY0 h1 h2 hAb
      go_enter Tryd.func12, Tryd.ntmps12
      go_wp2_with fail
      refine (cC.out _ (shape_below hSh hf0)).mono ?_
      rintro e wa ⟨rfl, na, rfl⟩
      go_wp2_with fail
      refine (cD.out _ (shape_below hSh (belowN hf0 na))).mono ?_
      rintro e wb ⟨rfl, nb, rfl⟩
      have Bb := Lib.hid (belowN hf0 (na + nb))
      go_wp2_with fail
      refine (cX.out _ Bb.out).mono ?_
      rintro e wc ⟨rfl, bc⟩
      have Bc := Lib.hid (Bb.out.trans (bc.mono Bb.out.size))
      go_wp2_with fail
      refine (cY.out _ Bc.out).mono ?_
      rintro e wd ⟨rfl, bd⟩
      have B2 := Lib.hid (Bc.out.trans (bd.mono Bc.out.size))
      have hR2 := hR0.out.below (belowN (Below.refl _ (w.alloc (.cells #[.string ⟨#[]⟩, .int .i64 0, .int .i64 0] 26))) (na + nb))
      have hR3 := hR2.below bc
      have hR4 := hR3.below bd
      clear bc bd hR2 hR3
      have hRz : PrtRes (wd.alloc (.cells #[.string A, .int .i64 0, .int .i64 0] 26)) w.heap.size := hR4.below ((Below.refl _ _).alloc (Nat.le_refl _) _)
      have B8 : Below w.heap.size w (wd.alloc (.cells #[.string A, .int .i64 0, .int .i64 0] 26)) := B2.out.alloc B2.out.size _
      obtain ⟨⟨c0, c1, c2⟩, f0, f1, f2⟩ := hRz.facts
      have B9 := B8
      clear hRz hR4
      go_wp2
      exact bodyPost_ret (v := .tuple #[.agg #[.string ⟨#[]⟩, .int .i64 0, .int .i64 0], .bool false]) (by simp [results, Tryd.results12, go_sem, c0, c1, c2, f0, f1, f2]) rfl ⟨by rw [hr.out], (((B9.setCell (p := ⟨w.heap.size, 0, none⟩) (Nat.le_refl _) _).setCell (p := ⟨w.heap.size, 1, none⟩) (Nat.le_refl _) _).setCell (p := ⟨w.heap.size, 2, none⟩) (Nat.le_refl _) _)⟩
    | some a =>
      rw [h2] at cY0
      simp only [optV] at cX0 cY0
      have cX := Lib.hid cX0
      have cY := Lib.hid cY0
      clear cX0 cY0 h1 h2 hAb
      go_enter Tryd.func12, Tryd.ntmps12
      go_wp2_with fail
      refine (cC.out _ (shape_below hSh hf0)).mono ?_
      rintro e wa ⟨rfl, na, rfl⟩
      go_wp2_with fail
      refine (cD.out _ (shape_below hSh (belowN hf0 na))).mono ?_
      rintro e wb ⟨rfl, nb, rfl⟩
      have Bb := Lib.hid (belowN hf0 (na + nb))
      go_wp2_with fail
      refine (cX.out _ Bb.out).mono ?_
      rintro e wc ⟨rfl, bc⟩
      have Bc := Lib.hid (Bb.out.trans (bc.mono Bb.out.size))
      go_wp2_with fail
      refine (cY.out _ Bc.out).mono ?_
      rintro e wd ⟨rfl, bd⟩
      have B2 := Lib.hid (Bc.out.trans (bd.mono Bc.out.size))
      have hR2 := hR0.out.below (belowN (Below.refl _ (w.alloc (.cells #[.string ⟨#[]⟩, .int .i64 0, .int .i64 0] 26))) (na + nb))
      have hR3 := hR2.below bc
      have hR4 := hR3.below bd
      clear bc bd hR2 hR3
      have hRz : PrtRes (wd.alloc (.cells #[.string A, .int .i64 a, .int .i64 0] 26)) w.heap.size := hR4.below ((Below.refl _ _).alloc (Nat.le_refl _) _)
      have B8 : Below w.heap.size w (wd.alloc (.cells #[.string A, .int .i64 a, .int .i64 0] 26)) := B2.out.alloc B2.out.size _
      obtain ⟨⟨c0, c1, c2⟩, f0, f1, f2⟩ := hRz.facts
      have B9 := B8
      clear hRz hR4
      go_wp2
      exact bodyPost_ret (v := .tuple #[.agg #[.string ⟨#[]⟩, .int .i64 0, .int .i64 0], .bool false]) (by simp [results, Tryd.results12, go_sem, c0, c1, c2, f0, f1, f2]) rfl ⟨by rw [hr.out], (((B9.setCell (p := ⟨w.heap.size, 0, none⟩) (Nat.le_refl _) _).setCell (p := ⟨w.heap.size, 1, none⟩) (Nat.le_refl _) _).setCell (p := ⟨w.heap.size, 2, none⟩) (Nat.le_refl _) _)⟩
  | some b =>
    rw [h1] at cX0
    cases h2 : readD D.data.toList with
    | none =>
      have hr : Hid (prtVal (prtO s.data.toList) = .tuple #[.agg #[.string ⟨#[]⟩, .int .i64 0, .int .i64 0], .bool false]) := Lib.hid (by rw [hq.out, prtQ_no2 h2]; rfl)
      rw [h2] at cY0
      simp only [optV] at cX0 cY0
      have cX := Lib.hid cX0
      have cY := Lib.hid cY0
      clear cX0 cY0 h1 h2 hAb
      go_enter Tryd.func12, Tryd.ntmps12
      go_wp2_with fail
      refine (cC.out _ (shape_below hSh hf0)).mono ?_
      rintro e wa ⟨rfl, na, rfl⟩
      go_wp2_with fail
      refine (cD.out _ (shape_below hSh (belowN hf0 na))).mono ?_
      rintro e wb ⟨rfl, nb, rfl⟩
      have Bb := Lib.hid (belowN hf0 (na + nb))
      go_wp2_with fail
      refine (cX.out _ Bb.out).mono ?_
      rintro e wc ⟨rfl, bc⟩
      have Bc := Lib.hid (Bb.out.trans (bc.mono Bb.out.size))
      go_wp2_with fail
      refine (cY.out _ Bc.out).mono ?_
      rintro e wd ⟨rfl, bd⟩
      have B2 := Lib.hid (Bc.out.trans (bd.mono Bc.out.size))
      have hR2 := hR0.out.below (belowN (Below.refl _ (w.alloc (.cells #[.string ⟨#[]⟩, .int .i64 0, .int .i64 0] 26))) (na + nb))
      have hR3 := hR2.below bc
      have hR4 := hR3.below bd
      clear bc bd hR2 hR3
      have hRz : PrtRes (wd.alloc (.cells #[.string A, .int .i64 0, .int .i64 b] 26)) w.heap.size := hR4.below ((Below.refl _ _).alloc (Nat.le_refl _) _)
      have B8 : Below w.heap.size w (wd.alloc (.cells #[.string A, .int .i64 0, .int .i64 b] 26)) := B2.out.alloc B2.out.size _
      obtain ⟨⟨c0, c1, c2⟩, f0, f1, f2⟩ := hRz.facts
      have B9 := B8
      clear hRz hR4
      go_wp2
      exact bodyPost_ret (v := .tuple #[.agg #[.string ⟨#[]⟩, .int .i64 0, .int .i64 0], .bool false]) (by simp [results, Tryd.results12, go_sem, c0, c1, c2, f0, f1, f2]) rfl ⟨by rw [hr.out], (((B9.setCell (p := ⟨w.heap.size, 0, none⟩) (Nat.le_refl _) _).setCell (p := ⟨w.heap.size, 1, none⟩) (Nat.le_refl _) _).setCell (p := ⟨w.heap.size, 2, none⟩) (Nat.le_refl _) _)⟩
    | some a =>
      have hq2 : Hid (prtO s.data.toList = if prtB ⟨A, a, b⟩ = true then some ⟨A, a, b⟩ else none) := Lib.hid (by rw [hq.out, prtQ_yes h1 h2, ← hAb])
      rw [h2] at cY0
      simp only [optV] at cX0 cY0
      have cX := Lib.hid cX0
      have cY := Lib.hid cY0
      have cV0 := fun W => isValidPrt_any A a b hAm W
      clear cX0 cY0 h1 h2 hAb
      cases hv : prtB ⟨A, a, b⟩ <;> rw [hv] at cV0 <;> have cV := Lib.hid cV0 <;> clear cV0
      · have hr : Hid (prtVal (prtO s.data.toList) = .tuple #[.agg #[.string ⟨#[]⟩, .int .i64 0, .int .i64 0], .bool false]) := Lib.hid (by rw [hq2.out, hv]; rfl)
        clear hq2 hq
        go_enter Tryd.func12, Tryd.ntmps12
        go_wp2_with fail
        refine (cC.out _ (shape_below hSh hf0)).mono ?_
        rintro e wa ⟨rfl, na, rfl⟩
        go_wp2_with fail
        refine (cD.out _ (shape_below hSh (belowN hf0 na))).mono ?_
        rintro e wb ⟨rfl, nb, rfl⟩
        have Bb := Lib.hid (belowN hf0 (na + nb))
        go_wp2_with fail
        refine (cX.out _ Bb.out).mono ?_
        rintro e wc ⟨rfl, bc⟩
        have Bc := Lib.hid (Bb.out.trans (bc.mono Bb.out.size))
        go_wp2_with fail
        refine (cY.out _ Bc.out).mono ?_
        rintro e wd ⟨rfl, bd⟩
        have B2 := Lib.hid (Bc.out.trans (bd.mono Bc.out.size))
        have hR2 := hR0.out.below (belowN (Below.refl _ (w.alloc (.cells #[.string ⟨#[]⟩, .int .i64 0, .int .i64 0] 26))) (na + nb))
        have hR3 := hR2.below bc
        have hR4 := hR3.below bd
        clear bc bd hR2 hR3
        have hRz : PrtRes (wd.alloc (.cells #[.string A, .int .i64 a, .int .i64 b] 26)) w.heap.size := hR4.below ((Below.refl _ _).alloc (Nat.le_refl _) _)
        have B8 : Below w.heap.size w (wd.alloc (.cells #[.string A, .int .i64 a, .int .i64 b] 26)) := B2.out.alloc B2.out.size _
        have hP := prt_box A a b wd
        obtain ⟨x0, x1, x2⟩ := hP
        simp only [Nat.zero_add] at x0 x1 x2
        have hGx : wd.heap.size < (wd.alloc (.cells #[.string A, .int .i64 a, .int .i64 b] 26)).heap.size := by simp
        clear hR4
        go_wp2_with fail
        refine (cV.out _).mono ?_
        rintro e w5 ⟨rfl, b5⟩
        have B9 := B8.trans (b5.mono B8.size)
        have y0 := (b5.cell (p := ⟨wd.heap.size, 0, none⟩) hGx).trans x0
        have y1 := (b5.cell (p := ⟨wd.heap.size, 1, none⟩) hGx).trans x1
        have y2 := (b5.cell (p := ⟨wd.heap.size, 2, none⟩) hGx).trans x2
        obtain ⟨⟨c0, c1, c2⟩, f0, f1, f2⟩ := (hRz.below b5).facts
        clear x0 x1 x2 hRz B8 b5
        go_wp2
        exact bodyPost_ret (v := .tuple #[.agg #[.string ⟨#[]⟩, .int .i64 0, .int .i64 0], .bool false]) (by simp [results, Tryd.results12, go_sem, c0, c1, c2, f0, f1, f2]) rfl ⟨by rw [hr.out], (((B9.setCell (p := ⟨w.heap.size, 0, none⟩) (Nat.le_refl _) _).setCell (p := ⟨w.heap.size, 1, none⟩) (Nat.le_refl _) _).setCell (p := ⟨w.heap.size, 2, none⟩) (Nat.le_refl _) _)⟩
      · have hr : Hid (prtVal (prtO s.data.toList) = .tuple #[.agg #[.string A, .int .i64 a, .int .i64 b], .bool true]) := Lib.hid (by rw [hq2.out, if_pos hv]; rfl)
        clear hq2 hq
        go_enter Tryd.func12, Tryd.ntmps12
        go_wp2_with fail
        refine (cC.out _ (shape_below hSh hf0)).mono ?_
        rintro e wa ⟨rfl, na, rfl⟩
        go_wp2_with fail
        refine (cD.out _ (shape_below hSh (belowN hf0 na))).mono ?_
        rintro e wb ⟨rfl, nb, rfl⟩
        have Bb := Lib.hid (belowN hf0 (na + nb))
        go_wp2_with fail
        refine (cX.out _ Bb.out).mono ?_
        rintro e wc ⟨rfl, bc⟩
        have Bc := Lib.hid (Bb.out.trans (bc.mono Bb.out.size))
        go_wp2_with fail
        refine (cY.out _ Bc.out).mono ?_
        rintro e wd ⟨rfl, bd⟩
        have B2 := Lib.hid (Bc.out.trans (bd.mono Bc.out.size))
        have hR2 := hR0.out.below (belowN (Below.refl _ (w.alloc (.cells #[.string ⟨#[]⟩, .int .i64 0, .int .i64 0] 26))) (na + nb))
        have hR3 := hR2.below bc
        have hR4 := hR3.below bd
        clear bc bd hR2 hR3
        have hRz : PrtRes (wd.alloc (.cells #[.string A, .int .i64 a, .int .i64 b] 26)) w.heap.size := hR4.below ((Below.refl _ _).alloc (Nat.le_refl _) _)
        have B8 : Below w.heap.size w (wd.alloc (.cells #[.string A, .int .i64 a, .int .i64 b] 26)) := B2.out.alloc B2.out.size _
        have hP := prt_box A a b wd
        obtain ⟨x0, x1, x2⟩ := hP
        simp only [Nat.zero_add] at x0 x1 x2
        have hGx : wd.heap.size < (wd.alloc (.cells #[.string A, .int .i64 a, .int .i64 b] 26)).heap.size := by simp
        clear hR4
        go_wp2_with fail
        refine (cV.out _).mono ?_
        rintro e w5 ⟨rfl, b5⟩
        have B9 := B8.trans (b5.mono B8.size)
        have y0 := (b5.cell (p := ⟨wd.heap.size, 0, none⟩) hGx).trans x0
        have y1 := (b5.cell (p := ⟨wd.heap.size, 1, none⟩) hGx).trans x1
        have y2 := (b5.cell (p := ⟨wd.heap.size, 2, none⟩) hGx).trans x2
        obtain ⟨⟨c0, c1, c2⟩, f0, f1, f2⟩ := (hRz.below b5).facts
        clear x0 x1 x2 hRz B8 b5
        go_wp2
        exact bodyPost_ret (v := .tuple #[.agg #[.string A, .int .i64 a, .int .i64 b], .bool true]) (by simp [results, Tryd.results12, go_sem, c0, c1, c2, f0, f1, f2]) rfl ⟨by rw [hr.out], (((B9.setCell (p := ⟨w.heap.size, 0, none⟩) (Nat.le_refl _) _).setCell (p := ⟨w.heap.size, 1, none⟩) (Nat.le_refl _) _).setCell (p := ⟨w.heap.size, 2, none⟩) (Nat.le_refl _) _)⟩
theorem rowS2x {w : World} {B : Nat} {v : Value} {a b : List UInt8} (h : w.ownsRow B 9 1 v 2 [encS a, encS b]) : ∃ g cap, v = .slice (some ⟨g, 0, none⟩) 2 cap ∧ 2 ≤ cap ∧ g < w.heap.size ∧ w.cell? ⟨g, 0, none⟩ = some (encS a) ∧ w.cell? ⟨g, 1, none⟩ = some (encS b) := by
  have h0 := h
  rcases h.2 with ⟨h1, h2⟩ | ⟨g, cap, cur, hv, hg, hb, hn, hcap, _, _⟩
  · omega
  · subst hv
    exact ⟨g, cap, rfl, hn, (h0.lt g rfl).2, by rw [h0.cellAt 0 (by omega)]; rfl, by rw [h0.cellAt 1 (by omega)]; rfl⟩
theorem bytes_by (l : List UInt8) (n : Nat) (h : l.length ≤ n) : ∃ A : ByteArray, A = ⟨l.toArray⟩ ∧ A.data.toList = l ∧ A.size ≤ n := ⟨⟨l.toArray⟩, rfl, rfl, by rw [← len_data]; exact h⟩
set_option maxHeartbeats 6400000 in
theorem specReadPart_any (s : ByteArray) (w : World) (hs : s.size ≤ 1048576) : Calls Tryd.prog 11 #[.string s] w fun e w' => e = .returned (prtVal (prtO s.data.toList)) ∧ Below w.heap.size w w' := by
  have hf0 := fresh_b w (.cells #[.string ⟨#[]⟩, .int .i64 0, .int .i64 0] 26)
  have hR0 := Lib.hid (PrtRes.start w)
  have hc0 := fun W => l01Split_any s 32 W hs
  have hlen := splitL_len 32 s.data.toList
  rw [len_data] at hlen
  by_cases hk2 : (splitL 32 s.data.toList).length = 2
  rotate_left
  · have hr : Hid (prtVal (prtO s.data.toList) = .tuple #[.agg #[.string ⟨#[]⟩, .int .i64 0, .int .i64 0], .bool false]) := Lib.hid (by rw [prtO_no1 (by intro p q h; rw [h] at hk2; exact hk2 rfl)]; rfl)
    obtain ⟨K, hK⟩ : ∃ K, K = (splitL 32 s.data.toList).length := ⟨_, rfl⟩
    have cC : Hid (∀ W, Calls Tryd.prog 25 #[.string s, .int .u8 32] W fun e w' => ∃ a cap, e = .returned (.slice a K cap) ∧ K ≤ cap ∧ Below W.heap.size W w') := Lib.hid (fun W => (hc0 W).mono fun e w' h => by
      obtain ⟨v, he, ho, hb⟩ := h
      have hpos := splitL_pos 32 s.data.toList
      rcases row_open ho with ⟨_, h0⟩ | ⟨g, cap, rfl, _, _, hcap, _⟩
      · rw [h0] at hpos; exact absurd hpos (Nat.lt_irrefl 0)
      · exact ⟨_, cap, by rw [hK]; exact he, by rw [hK]; exact hcap, hb⟩)
    rw [← hK] at hk2 hlen
    have t0 : ((K : Int) == 2) = false := by rw [beq_eq_false_iff_ne]; omega
    have u0 : ((K : Int) != 2) = true := by unfold bne; rw [t0]; rfl
    clear hK hk2 hc0
    go_enter Tryd.func11, Tryd.ntmps11
    go_wp2_with fail
    refine (cC.out _).mono ?_
    rintro e wa ⟨a1, cap1, rfl, hc1, ba⟩
    have B9 := hf0.trans (ba.mono hf0.size)
    have hRz := hR0.out.below ba
    obtain ⟨⟨c0, c1, c2⟩, f0, f1, f2⟩ := hRz.facts
    go_wp2
    exact bodyPost_ret (v := .tuple #[.agg #[.string ⟨#[]⟩, .int .i64 0, .int .i64 0], .bool false]) (by simp [results, Tryd.results11, go_sem, c0, c1, c2, f0, f1, f2]) rfl ⟨by rw [hr.out], (((B9.setCell (p := ⟨w.heap.size, 0, none⟩) (Nat.le_refl _) _).setCell (p := ⟨w.heap.size, 1, none⟩) (Nat.le_refl _) _).setCell (p := ⟨w.heap.size, 2, none⟩) (Nat.le_refl _) _)⟩
  obtain ⟨p, q, hpq⟩ : ∃ p q, splitL 32 s.data.toList = [p, q] := by
    match h : splitL 32 s.data.toList, hk2 with
    | [p, q], _ => exact ⟨p, q, rfl⟩
  have hq := Lib.hid (prtO_two hpq)
  have hpl := fun x hx => part_len 32 _ s.data.toList (Nat.le_refl _) x hx
  rw [hpq] at hc0 hpl
  have lp := hpl p (by simp)
  have lq := hpl q (by simp)
  rw [len_data] at lp lq
  obtain ⟨A, hA, hAl, hAs⟩ := bytes_by p 1048576 (by omega)
  obtain ⟨B, hB, hBl, hBs⟩ := bytes_by q 1048576 (by omega)
  have cC : Hid (∀ W, Calls Tryd.prog 25 #[.string s, .int .u8 32] W fun e w' => ∃ g cap, e = .returned (.slice (some ⟨g, 0, none⟩) 2 cap) ∧ 2 ≤ cap ∧ g < w'.heap.size ∧ w'.cell? ⟨g, 0, none⟩ = some (.string A) ∧ w'.cell? ⟨g, 1, none⟩ = some (.string B) ∧ Below W.heap.size W w') := Lib.hid (fun W => (hc0 W).mono fun e w' h => by
    obtain ⟨v, he, ho, hb⟩ := h
    obtain ⟨g, cap, rfl, h1, h2, h3, h4⟩ := rowS2x ho
    exact ⟨g, cap, he, h1, h2, by rw [hA]; exact h3, by rw [hB]; exact h4, hb⟩)
  have hAm : A.size ≤ maxLen := by unfold maxLen; omega
  have hd0 := fun W => l01Split_any B 64 W hBs
  rw [hBl] at hd0
  clear hk2 hpq hpl hlen hc0
  have hlen := splitL_len 64 q
  by_cases hk2 : (splitL 64 q).length = 2
  rotate_left
  · have hr : Hid (prtVal (prtO s.data.toList) = .tuple #[.agg #[.string ⟨#[]⟩, .int .i64 0, .int .i64 0], .bool false]) := Lib.hid (by rw [hq.out, prtQ_no (by intro x y h; rw [h] at hk2; exact hk2 rfl)]; rfl)
    obtain ⟨K, hK⟩ : ∃ K, K = (splitL 64 q).length := ⟨_, rfl⟩
    have cD : Hid (∀ W, Calls Tryd.prog 25 #[.string B, .int .u8 64] W fun e w' => ∃ a cap, e = .returned (.slice a K cap) ∧ K ≤ cap ∧ Below W.heap.size W w') := Lib.hid (fun W => (hd0 W).mono fun e w' h => by
      obtain ⟨v, he, ho, hb⟩ := h
      have hpos := splitL_pos 64 q
      rcases row_open ho with ⟨_, h0⟩ | ⟨g, cap, rfl, _, _, hcap, _⟩
      · rw [h0] at hpos; exact absurd hpos (Nat.lt_irrefl 0)
      · exact ⟨_, cap, by rw [hK]; exact he, by rw [hK]; exact hcap, hb⟩)
    rw [← hK] at hk2 hlen
    have t0 : ((K : Int) == 2) = false := by rw [beq_eq_false_iff_ne]; omega
    have u0 : ((K : Int) != 2) = true := by unfold bne; rw [t0]; rfl
    clear hK hk2 hd0 hA hB hAl hBl lp lq hlen
    go_enter Tryd.func11, Tryd.ntmps11
    go_wp2_with fail
    refine (cC.out _).mono ?_
    rintro e wa ⟨g1, cap1, rfl, hc1, hg1, s0, s1, ba⟩
    have Ba := hf0.trans (ba.mono hf0.size)
    have Ra := hR0.out.below ba
    clear ba
    go_wp2_with fail
    refine (cD.out _).mono ?_
    rintro e wb ⟨a2, cap2, rfl, hc2, bb⟩
    have B9 := Ba.trans (bb.mono Ba.size)
    have hRz := Ra.below bb
    obtain ⟨⟨c0, c1, c2⟩, f0, f1, f2⟩ := hRz.facts
    go_wp2
    exact bodyPost_ret (v := .tuple #[.agg #[.string ⟨#[]⟩, .int .i64 0, .int .i64 0], .bool false]) (by simp [results, Tryd.results11, go_sem, c0, c1, c2, f0, f1, f2]) rfl ⟨by rw [hr.out], (((B9.setCell (p := ⟨w.heap.size, 0, none⟩) (Nat.le_refl _) _).setCell (p := ⟨w.heap.size, 1, none⟩) (Nat.le_refl _) _).setCell (p := ⟨w.heap.size, 2, none⟩) (Nat.le_refl _) _)⟩
  obtain ⟨x, y, hxy⟩ : ∃ x y, splitL 64 q = [x, y] := by
    match h : splitL 64 q, hk2 with
    | [x, y], _ => exact ⟨x, y, rfl⟩
  have hq1 := Lib.hid (hq.out.trans (prtQ_two (p := p) hxy))
  have hpl := fun z hz => part_len 64 _ q (Nat.le_refl _) z hz
  rw [hxy] at hd0 hpl
  have lx := hpl x (by simp)
  have ly := hpl y (by simp)
  obtain ⟨C, hC, hCl, hCs⟩ := bytes_by x 1048576 (by omega)
  obtain ⟨D, hD, hDl, hDs⟩ := bytes_by y 1048576 (by omega)
  have cD : Hid (∀ W, Calls Tryd.prog 25 #[.string B, .int .u8 64] W fun e w' => ∃ g cap, e = .returned (.slice (some ⟨g, 0, none⟩) 2 cap) ∧ 2 ≤ cap ∧ g < w'.heap.size ∧ w'.cell? ⟨g, 0, none⟩ = some (.string C) ∧ w'.cell? ⟨g, 1, none⟩ = some (.string D) ∧ Below W.heap.size W w') := Lib.hid (fun W => (hd0 W).mono fun e w' h => by
    obtain ⟨v, he, ho, hb⟩ := h
    obtain ⟨g, cap, rfl, h1, h2, h3, h4⟩ := rowS2x ho
    exact ⟨g, cap, he, h1, h2, by rw [hC]; exact h3, by rw [hD]; exact h4, hb⟩)
  have cX0 := fun W => l01Number_any C W (by unfold maxLen; omega)
  have cY0 := fun W => l01Number_any D W (by unfold maxLen; omega)
  rw [hCl] at cX0
  rw [hDl] at cY0
  clear hk2 hxy hpl hlen hd0 lx ly lp lq hC hD hCl hDl hB hBl hq
  cases h1 : readD x with
  | none =>
    have hr : Hid (prtVal (prtO s.data.toList) = .tuple #[.agg #[.string ⟨#[]⟩, .int .i64 0, .int .i64 0], .bool false]) := Lib.hid (by rw [hq1.out, prtQ_no1 h1]; rfl)
    rw [h1] at cX0
    cases h2 : readD y with
    | none =>
      rw [h2] at cY0
      simp only [optV] at cX0 cY0
      have cX := Lib.hid cX0
      have cY := Lib.hid cY0
      clear cX0 cY0 h1 h2 hA hAl
      go_enter Tryd.func11, Tryd.ntmps11
      go_wp2_with fail
      refine (cC.out _).mono ?_
      rintro e wa ⟨g1, cap1, rfl, hc1, hg1, s0, s1, ba⟩
      have Ba := hf0.trans (ba.mono hf0.size)
      have Ra := hR0.out.below ba
      clear ba
      go_wp2_with fail
      refine (cD.out _).mono ?_
      rintro e wb ⟨g2, cap2, rfl, hc2, hg2, y0, y1, bb⟩
      have Bb := Ba.trans (bb.mono Ba.size)
      have Rb := Ra.below bb
      have s2 := (bb.cell (p := ⟨g1, 0, none⟩) hg1).trans s0
      clear bb s0 Ra Ba
      go_wp2_with fail
      refine (cX.out _).mono ?_
      rintro e _ ⟨rfl, rfl⟩
      go_wp2_with fail
      refine (cY.out _).mono ?_
      rintro e _ ⟨rfl, rfl⟩
      have hRz : PrtRes (wb.alloc (.cells #[.string A, .int .i64 0, .int .i64 0] 26)) w.heap.size := Rb.below ((Below.refl _ _).alloc (Nat.le_refl _) _)
      have B9 : Below w.heap.size w (wb.alloc (.cells #[.string A, .int .i64 0, .int .i64 0] 26)) := Bb.alloc Bb.size _
      obtain ⟨⟨c0, c1, c2⟩, f0, f1, f2⟩ := hRz.facts
      clear hRz Rb
      go_wp2
      exact bodyPost_ret (v := .tuple #[.agg #[.string ⟨#[]⟩, .int .i64 0, .int .i64 0], .bool false]) (by simp [results, Tryd.results11, go_sem, c0, c1, c2, f0, f1, f2]) rfl ⟨by rw [hr.out], (((B9.setCell (p := ⟨w.heap.size, 0, none⟩) (Nat.le_refl _) _).setCell (p := ⟨w.heap.size, 1, none⟩) (Nat.le_refl _) _).setCell (p := ⟨w.heap.size, 2, none⟩) (Nat.le_refl _) _)⟩
    | some a =>
      rw [h2] at cY0
      simp only [optV] at cX0 cY0
      have cX := Lib.hid cX0
      have cY := Lib.hid cY0
      clear cX0 cY0 h1 h2 hA hAl
      go_enter Tryd.func11, Tryd.ntmps11
      go_wp2_with fail
      refine (cC.out _).mono ?_
      rintro e wa ⟨g1, cap1, rfl, hc1, hg1, s0, s1, ba⟩
      have Ba := hf0.trans (ba.mono hf0.size)
      have Ra := hR0.out.below ba
      clear ba
      go_wp2_with fail
      refine (cD.out _).mono ?_
      rintro e wb ⟨g2, cap2, rfl, hc2, hg2, y0, y1, bb⟩
      have Bb := Ba.trans (bb.mono Ba.size)
      have Rb := Ra.below bb
      have s2 := (bb.cell (p := ⟨g1, 0, none⟩) hg1).trans s0
      clear bb s0 Ra Ba
      go_wp2_with fail
      refine (cX.out _).mono ?_
      rintro e _ ⟨rfl, rfl⟩
      go_wp2_with fail
      refine (cY.out _).mono ?_
      rintro e _ ⟨rfl, rfl⟩
      have hRz : PrtRes (wb.alloc (.cells #[.string A, .int .i64 a, .int .i64 0] 26)) w.heap.size := Rb.below ((Below.refl _ _).alloc (Nat.le_refl _) _)
      have B9 : Below w.heap.size w (wb.alloc (.cells #[.string A, .int .i64 a, .int .i64 0] 26)) := Bb.alloc Bb.size _
      obtain ⟨⟨c0, c1, c2⟩, f0, f1, f2⟩ := hRz.facts
      clear hRz Rb
      go_wp2
      exact bodyPost_ret (v := .tuple #[.agg #[.string ⟨#[]⟩, .int .i64 0, .int .i64 0], .bool false]) (by simp [results, Tryd.results11, go_sem, c0, c1, c2, f0, f1, f2]) rfl ⟨by rw [hr.out], (((B9.setCell (p := ⟨w.heap.size, 0, none⟩) (Nat.le_refl _) _).setCell (p := ⟨w.heap.size, 1, none⟩) (Nat.le_refl _) _).setCell (p := ⟨w.heap.size, 2, none⟩) (Nat.le_refl _) _)⟩
  | some b =>
    rw [h1] at cX0
    cases h2 : readD y with
    | none =>
      have hr : Hid (prtVal (prtO s.data.toList) = .tuple #[.agg #[.string ⟨#[]⟩, .int .i64 0, .int .i64 0], .bool false]) := Lib.hid (by rw [hq1.out, prtQ_no2 h2]; rfl)
      rw [h2] at cY0
      simp only [optV] at cX0 cY0
      have cX := Lib.hid cX0
      have cY := Lib.hid cY0
      clear cX0 cY0 h1 h2 hA hAl
      go_enter Tryd.func11, Tryd.ntmps11
      go_wp2_with fail
      refine (cC.out _).mono ?_
      rintro e wa ⟨g1, cap1, rfl, hc1, hg1, s0, s1, ba⟩
      have Ba := hf0.trans (ba.mono hf0.size)
      have Ra := hR0.out.below ba
      clear ba
      go_wp2_with fail
      refine (cD.out _).mono ?_
      rintro e wb ⟨g2, cap2, rfl, hc2, hg2, y0, y1, bb⟩
      have Bb := Ba.trans (bb.mono Ba.size)
      have Rb := Ra.below bb
      have s2 := (bb.cell (p := ⟨g1, 0, none⟩) hg1).trans s0
      clear bb s0 Ra Ba
      go_wp2_with fail
      refine (cX.out _).mono ?_
      rintro e _ ⟨rfl, rfl⟩
      go_wp2_with fail
      refine (cY.out _).mono ?_
      rintro e _ ⟨rfl, rfl⟩
      have hRz : PrtRes (wb.alloc (.cells #[.string A, .int .i64 0, .int .i64 b] 26)) w.heap.size := Rb.below ((Below.refl _ _).alloc (Nat.le_refl _) _)
      have B9 : Below w.heap.size w (wb.alloc (.cells #[.string A, .int .i64 0, .int .i64 b] 26)) := Bb.alloc Bb.size _
      obtain ⟨⟨c0, c1, c2⟩, f0, f1, f2⟩ := hRz.facts
      clear hRz Rb
      go_wp2
      exact bodyPost_ret (v := .tuple #[.agg #[.string ⟨#[]⟩, .int .i64 0, .int .i64 0], .bool false]) (by simp [results, Tryd.results11, go_sem, c0, c1, c2, f0, f1, f2]) rfl ⟨by rw [hr.out], (((B9.setCell (p := ⟨w.heap.size, 0, none⟩) (Nat.le_refl _) _).setCell (p := ⟨w.heap.size, 1, none⟩) (Nat.le_refl _) _).setCell (p := ⟨w.heap.size, 2, none⟩) (Nat.le_refl _) _)⟩
    | some a =>
      have hq3 : Hid (prtO s.data.toList = if prtB ⟨A, a, b⟩ = true then some ⟨A, a, b⟩ else none) := Lib.hid (by rw [hq1.out, prtQ_yes h1 h2, ← hA])
      rw [h2] at cY0
      simp only [optV] at cX0 cY0
      have cX := Lib.hid cX0
      have cY := Lib.hid cY0
      clear cX0 cY0 h1 h2 hA hAl hq1
      cases hv : prtB ⟨A, a, b⟩
      · have hr : Hid (prtVal (prtO s.data.toList) = .tuple #[.agg #[.string ⟨#[]⟩, .int .i64 0, .int .i64 0], .bool false]) := Lib.hid (by rw [hq3.out, hv]; rfl)
        have hO := l11One_any A a b hAm
        rw [hv] at hO
        have hO' := Lib.hid hO
        clear hO hq3
        go_enter Tryd.func11, Tryd.ntmps11
        go_wp2_with fail
        refine (cC.out _).mono ?_
        rintro e wa ⟨g1, cap1, rfl, hc1, hg1, s0, s1, ba⟩
        have Ba := hf0.trans (ba.mono hf0.size)
        have Ra := hR0.out.below ba
        clear ba
        go_wp2_with fail
        refine (cD.out _).mono ?_
        rintro e wb ⟨g2, cap2, rfl, hc2, hg2, y0, y1, bb⟩
        have Bb := Ba.trans (bb.mono Ba.size)
        have Rb := Ra.below bb
        have s2 := (bb.cell (p := ⟨g1, 0, none⟩) hg1).trans s0
        clear bb s0 Ra Ba
        go_wp2_with fail
        refine (cX.out _).mono ?_
        rintro e _ ⟨rfl, rfl⟩
        go_wp2_with fail
        refine (cY.out _).mono ?_
        rintro e _ ⟨rfl, rfl⟩
        have hRz : PrtRes (wb.alloc (.cells #[.string A, .int .i64 a, .int .i64 b] 26)) w.heap.size := Rb.below ((Below.refl _ _).alloc (Nat.le_refl _) _)
        have B9 : Below w.heap.size w (wb.alloc (.cells #[.string A, .int .i64 a, .int .i64 b] 26)) := Bb.alloc Bb.size _
        have hP := prt_box A a b wb
        have cO := Lib.hid (hO'.out (wb.alloc (.cells #[.string A, .int .i64 a, .int .i64 b] 26)) wb.heap.size 0 hP)
        obtain ⟨x0, x1, x2⟩ := hP
        simp only [Nat.zero_add] at x0 x1 x2
        obtain ⟨⟨c0, c1, c2⟩, f0, f1, f2⟩ := hRz.facts
        clear hRz Rb
        go_wp2_with fail
        refine cO.out.mono ?_
        rintro e _ ⟨rfl, rfl⟩
        go_wp2
        exact bodyPost_ret (v := .tuple #[.agg #[.string ⟨#[]⟩, .int .i64 0, .int .i64 0], .bool false]) (by simp [results, Tryd.results11, go_sem, c0, c1, c2, f0, f1, f2]) rfl ⟨by rw [hr.out], (((B9.setCell (p := ⟨w.heap.size, 0, none⟩) (Nat.le_refl _) _).setCell (p := ⟨w.heap.size, 1, none⟩) (Nat.le_refl _) _).setCell (p := ⟨w.heap.size, 2, none⟩) (Nat.le_refl _) _)⟩
      · have hr : Hid (prtVal (prtO s.data.toList) = .tuple #[.agg #[.string A, .int .i64 a, .int .i64 b], .bool true]) := Lib.hid (by rw [hq3.out, if_pos hv]; rfl)
        have hO := l11One_any A a b hAm
        rw [hv] at hO
        have hO' := Lib.hid hO
        clear hO hq3
        go_enter Tryd.func11, Tryd.ntmps11
        go_wp2_with fail
        refine (cC.out _).mono ?_
        rintro e wa ⟨g1, cap1, rfl, hc1, hg1, s0, s1, ba⟩
        have Ba := hf0.trans (ba.mono hf0.size)
        have Ra := hR0.out.below ba
        clear ba
        go_wp2_with fail
        refine (cD.out _).mono ?_
        rintro e wb ⟨g2, cap2, rfl, hc2, hg2, y0, y1, bb⟩
        have Bb := Ba.trans (bb.mono Ba.size)
        have Rb := Ra.below bb
        have s2 := (bb.cell (p := ⟨g1, 0, none⟩) hg1).trans s0
        clear bb s0 Ra Ba
        go_wp2_with fail
        refine (cX.out _).mono ?_
        rintro e _ ⟨rfl, rfl⟩
        go_wp2_with fail
        refine (cY.out _).mono ?_
        rintro e _ ⟨rfl, rfl⟩
        have hRz : PrtRes (wb.alloc (.cells #[.string A, .int .i64 a, .int .i64 b] 26)) w.heap.size := Rb.below ((Below.refl _ _).alloc (Nat.le_refl _) _)
        have B9 : Below w.heap.size w (wb.alloc (.cells #[.string A, .int .i64 a, .int .i64 b] 26)) := Bb.alloc Bb.size _
        have hP := prt_box A a b wb
        have cO := Lib.hid (hO'.out (wb.alloc (.cells #[.string A, .int .i64 a, .int .i64 b] 26)) wb.heap.size 0 hP)
        obtain ⟨x0, x1, x2⟩ := hP
        simp only [Nat.zero_add] at x0 x1 x2
        obtain ⟨⟨c0, c1, c2⟩, f0, f1, f2⟩ := hRz.facts
        clear hRz Rb
        go_wp2_with fail
        refine cO.out.mono ?_
        rintro e _ ⟨rfl, rfl⟩
        go_wp2
        exact bodyPost_ret (v := .tuple #[.agg #[.string A, .int .i64 a, .int .i64 b], .bool true]) (by simp [results, Tryd.results11, go_sem, c0, c1, c2, f0, f1, f2]) rfl ⟨by rw [hr.out], (((B9.setCell (p := ⟨w.heap.size, 0, none⟩) (Nat.le_refl _) _).setCell (p := ⟨w.heap.size, 1, none⟩) (Nat.le_refl _) _).setCell (p := ⟨w.heap.size, 2, none⟩) (Nat.le_refl _) _)⟩
end Go.Proofs.YtilppdjjcgffiaaDoor
