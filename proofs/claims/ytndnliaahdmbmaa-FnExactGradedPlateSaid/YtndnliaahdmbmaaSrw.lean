/-
  ScrapeRow on both sides.
-/
import Derived.Test.YtndnliaahdmbmaaThn
namespace Go.Proofs.Ytndnliaahdmbmaa
open Go.ChangeShapes Go.WideShapes Go.ChangeAt Go.RowKit Go.Deep
set_option linter.unusedVariables false
set_option linter.unusedSimpArgs false
set_option maxRecDepth 1000000
theorem two_boxP (w : World) (cs : Array Value) (T : TypeId) (cs' : Array Value) (T' : TypeId) : (∀ i v, cs[i]? = some v → ((w.alloc (.cells cs T)).alloc (.cells cs' T')).cell? ⟨w.heap.size, i, none⟩ = some v) ∧ (∀ i v, cs'[i]? = some v → ((w.alloc (.cells cs T)).alloc (.cells cs' T')).cell? ⟨w.heap.size + 1, i, none⟩ = some v) ∧ Below w.heap.size w ((w.alloc (.cells cs T)).alloc (.cells cs' T')) ∧ w.heap.size + 1 < ((w.alloc (.cells cs T)).alloc (.cells cs' T')).heap.size := by
  have e : (w.alloc (.cells cs T)).heap.size = w.heap.size + 1 := by simp
  have h1 := fun i v h => ((Below.refl (w.alloc (.cells cs T)).heap.size (w.alloc (.cells cs T))).alloc (Nat.le_refl _) (.cells cs' T')).cell (p := ⟨w.heap.size, i, none⟩) (by simp) |>.trans (cellB (heap_alloc_new w (.cells cs T)) i v h)
  have h2 := fun i v h => cellB (heap_alloc_new (w.alloc (.cells cs T)) (.cells cs' T')) i v h
  rw [e] at h2
  exact ⟨h1, h2, ((Below.refl _ _).alloc (Nat.le_refl _) _).alloc (by simp) _, by simp⟩
/-- the cells of one row -/
def rowB (r : Int) (i _k : Nat) : Bool := ((i : Int) == r)
def srG (r b l : Int) (R C : Nat) (h : Nat → Nat → Int) : List (List Int) := gridF R C (behF b l (rowB r) h)
def srB (G : List (List Int)) (r b l : Int) : Bool := byB b l && inB r 0 ((G.length : Int) - 1)
def srV (G : List (List Int)) (r b l : Int) : List (List Int) := if okP G && srB G r b l then srG r b l G.length (colsG G) (hG G) else []
theorem srV_len (G : List (List Int)) (r b l : Int) : (srV G r b l).length + totL (srV G r b l) ≤ 1048576 := by
  unfold srV
  split
  · rename_i hb
    obtain ⟨_, h2, _, h4, _⟩ := okG_rows (okP_okG (Bool.and_eq_true_iff.1 hb).1)
    exact gridF_le h2 h4 _
  · simp [totL]
theorem row1_any (r : Int) (i k br : Nat) (w : World) (h : w.cell? ⟨br, 0, none⟩ = some (.int .i64 r)) : Calls Try.prog 71 #[encP (i, k), .pointer (some ⟨br, 0, none⟩)] w fun e w' => e = .returned (.bool (rowB r i k)) ∧ Below w.heap.size w w' := by
  have hr : Hid (rowB r i k = ((i : Int) == r)) := Lib.hid rfl
  unfold encP
  dsimp only
  have hB0 : Below w.heap.size w (w.alloc (.cells #[.int .i64 (i : Int), .int .i64 (k : Int)] 71)) := (Below.refl _ _).alloc (Nat.le_refl _) _
  replace h := (hB0.cell (p := ⟨br, 0, none⟩) (World.block_lt_of_cell? w _ h)).trans h
  have p0 := cellB (heap_alloc_new w (.cells #[.int .i64 (i : Int), .int .i64 (k : Int)] 71)) 0 _ rfl
  have hB := Lib.hid hB0
  clear hB0
  go_enter Try.func71, Try.ntmps71
  go_wp2
  go_ret
  exact ⟨ret_bool (by rw [hr.out]), hB.out⟩
theorem scrape_any (r b l : Int) (hb : 0 ≤ b ∧ b ≤ 200) (hl : 1 ≤ l ∧ l ≤ 200) (g o cap R C : Nat) (rg ro rc : Nat → Nat) (h : Nat → Nat → Int) (w : World) (x : GR w g o cap R C rg ro rc h) (br : Nat) (hbr : w.cell? ⟨br, 0, none⟩ = some (.int .i64 r)) : Calls Try.prog 70 #[.agg #[.int .i64 b, .int .i64 l], .slice (some ⟨g, o, none⟩) R cap, .func (.func 71) #[] #[.pointer (some ⟨br, 0, none⟩)]] w (RowsG (srG r b l R C h) w) :=
  plateBehind_any b l hb hl 71 #[.pointer (some ⟨br, 0, none⟩)] (rowB r) (enters_of Try.func71 (by kernel_rfl) rfl) g o cap R C rg ro rc h w x (fun W hW i k _ _ => row1_any r i k br W ((hW.cell (p := ⟨br, 0, none⟩) (World.block_lt_of_cell? w _ hbr)).trans hbr))
set_option maxHeartbeats 3200000 in
theorem implScrapeRow_any (v : Value) (G : List (List Int)) (r b l : Int) (w : World) (hn : G.length + totL G ≤ 1048576) (hv : GridAt w v G) : Calls Try.prog 36 #[v, .int .i64 r, .int .i64 b, .int .i64 l] w (GridRet (srV G r b l) (cod8 (okP G) (srB G r b l)) w) := by
  have cC := Lib.hid (fun W (hb : Below w.heap.size w W) => codeOfPlate_any v G (srB G r b l) W hn (hv.below hb))
  have cW := Lib.hid (fun W => isScrape_any b l W)
  have hV0 : srV G r b l = if okP G && srB G r b l then srG r b l G.length (colsG G) (hG G) else [] := rfl
  have hS0 : srB G r b l = (byB b l && inB r 0 ((G.length : Int) - 1)) := rfl
  have hw1 : IntKind.i64.wrap ((G.length : Int) - 1) = (G.length : Int) - 1 := IntWalk.i64_in _ (by omega)
  have cI := Lib.hid (fun W => within64_any r 0 ((G.length : Int) - 1) W)
  obtain ⟨q, hq⟩ : ∃ q, q = srB G r b l := ⟨_, rfl⟩
  rw [← hq] at cC hV0 hS0 ⊢
  clear hq
  cases hwd : byB b l <;> rw [hwd] at cW hS0
  · have hq : q = false := hS0
    subst hq
    cases hok : okP G
    · have e1 : Hid (srV G r b l = []) := Lib.hid (by rw [hV0, hok]; rfl)
      rw [hok] at cC
      obtain ⟨a, cap, rfl, _⟩ := hv
      clear hV0 hok hS0 hwd
      rw [show cod8 false false = 1 from rfl] at cC ⊢
      go_enter Try.func36, Try.ntmps36
      go_wp2_with (go_at_call 65; refine (cI.out _).mono ?_; rintro e w' ⟨rfl, rfl⟩)
      all_goals skip
      obtain ⟨q1, q2, hB0, hsz⟩ := two_boxP w #[.int .i64 r] 2 #[.int .i64 b, .int .i64 l] 63
      generalize ((w.alloc (.cells #[.int .i64 r] 2)).alloc (.cells #[.int .i64 b, .int .i64 l] 63)) = W0 at q1 q2 hB0 hsz ⊢
      have cr := q1 0 _ rfl
      have c0 := q2 0 _ rfl
      have c1 := q2 1 _ rfl
      clear q1 q2
      refine (cW.out _).mono ?_
      rintro e w1 ⟨rfl, b1⟩
      have B1 := below2 hB0 b1
      replace cr := (b1.cell (p := ⟨w.heap.size, 0, none⟩) (by show w.heap.size < _; omega)).trans cr
      replace c0 := (b1.cell (p := ⟨w.heap.size + 1, 0, none⟩) hsz).trans c0
      replace c1 := (b1.cell (p := ⟨w.heap.size + 1, 1, none⟩) hsz).trans c1
      have cC1 := Lib.hid (cC.out w1 B1)
      clear b1
      go_wp2_with fail
      refine cC1.out.mono ?_
      rintro e w2 ⟨rfl, hd2⟩
      replace cr := (hd2.cell _).trans cr
      replace c0 := (hd2.cell _).trans c0
      replace c1 := (hd2.cell _).trans c1
      have B2 := below2 B1 hd2.below
      have hs2 := hd2.below.size
      clear hd2 B1 hB0
      go_wp2
      go_ret2
      exact gridRet_nil e1.out rfl B2
    · have e1 : Hid (srV G r b l = []) := Lib.hid (by rw [hV0, hok]; rfl)
      rw [hok] at cC
      obtain ⟨a, cap, rfl, _⟩ := hv
      clear hV0 hok hS0 hwd
      rw [show cod8 true false = 2 from rfl] at cC ⊢
      go_enter Try.func36, Try.ntmps36
      go_wp2_with (go_at_call 65; refine (cI.out _).mono ?_; rintro e w' ⟨rfl, rfl⟩)
      all_goals skip
      obtain ⟨q1, q2, hB0, hsz⟩ := two_boxP w #[.int .i64 r] 2 #[.int .i64 b, .int .i64 l] 63
      generalize ((w.alloc (.cells #[.int .i64 r] 2)).alloc (.cells #[.int .i64 b, .int .i64 l] 63)) = W0 at q1 q2 hB0 hsz ⊢
      have cr := q1 0 _ rfl
      have c0 := q2 0 _ rfl
      have c1 := q2 1 _ rfl
      clear q1 q2
      refine (cW.out _).mono ?_
      rintro e w1 ⟨rfl, b1⟩
      have B1 := below2 hB0 b1
      replace cr := (b1.cell (p := ⟨w.heap.size, 0, none⟩) (by show w.heap.size < _; omega)).trans cr
      replace c0 := (b1.cell (p := ⟨w.heap.size + 1, 0, none⟩) hsz).trans c0
      replace c1 := (b1.cell (p := ⟨w.heap.size + 1, 1, none⟩) hsz).trans c1
      have cC1 := Lib.hid (cC.out w1 B1)
      clear b1
      go_wp2_with fail
      refine cC1.out.mono ?_
      rintro e w2 ⟨rfl, hd2⟩
      replace cr := (hd2.cell _).trans cr
      replace c0 := (hd2.cell _).trans c0
      replace c1 := (hd2.cell _).trans c1
      have B2 := below2 B1 hd2.below
      have hs2 := hd2.below.size
      clear hd2 B1 hB0
      go_wp2
      go_ret2
      exact gridRet_nil e1.out rfl B2
  cases hin : inB r 0 ((G.length : Int) - 1) <;> rw [hin] at cI hS0
  · have hq : q = false := hS0
    subst hq
    cases hok : okP G
    · have e1 : Hid (srV G r b l = []) := Lib.hid (by rw [hV0, hok]; rfl)
      rw [hok] at cC
      obtain ⟨a, cap, rfl, _⟩ := hv
      clear hV0 hok hS0 hwd hin
      rw [show cod8 false false = 1 from rfl] at cC ⊢
      go_enter Try.func36, Try.ntmps36
      go_wp2_with (go_at_call 65; refine (cI.out _).mono ?_; rintro e w' ⟨rfl, rfl⟩)
      all_goals skip
      obtain ⟨q1, q2, hB0, hsz⟩ := two_boxP w #[.int .i64 r] 2 #[.int .i64 b, .int .i64 l] 63
      generalize ((w.alloc (.cells #[.int .i64 r] 2)).alloc (.cells #[.int .i64 b, .int .i64 l] 63)) = W0 at q1 q2 hB0 hsz ⊢
      have cr := q1 0 _ rfl
      have c0 := q2 0 _ rfl
      have c1 := q2 1 _ rfl
      clear q1 q2
      refine (cW.out _).mono ?_
      rintro e w1 ⟨rfl, b1⟩
      have B1 := below2 hB0 b1
      replace cr := (b1.cell (p := ⟨w.heap.size, 0, none⟩) (by show w.heap.size < _; omega)).trans cr
      replace c0 := (b1.cell (p := ⟨w.heap.size + 1, 0, none⟩) hsz).trans c0
      replace c1 := (b1.cell (p := ⟨w.heap.size + 1, 1, none⟩) hsz).trans c1
      have cC1 := Lib.hid (cC.out w1 B1)
      clear b1
      go_wp2_with fail
      refine cC1.out.mono ?_
      rintro e w2 ⟨rfl, hd2⟩
      replace cr := (hd2.cell _).trans cr
      replace c0 := (hd2.cell _).trans c0
      replace c1 := (hd2.cell _).trans c1
      have B2 := below2 B1 hd2.below
      have hs2 := hd2.below.size
      clear hd2 B1 hB0
      go_wp2
      go_ret2
      exact gridRet_nil e1.out rfl B2
    · have e1 : Hid (srV G r b l = []) := Lib.hid (by rw [hV0, hok]; rfl)
      rw [hok] at cC
      obtain ⟨a, cap, rfl, _⟩ := hv
      clear hV0 hok hS0 hwd hin
      rw [show cod8 true false = 2 from rfl] at cC ⊢
      go_enter Try.func36, Try.ntmps36
      go_wp2_with (go_at_call 65; refine (cI.out _).mono ?_; rintro e w' ⟨rfl, rfl⟩)
      all_goals skip
      obtain ⟨q1, q2, hB0, hsz⟩ := two_boxP w #[.int .i64 r] 2 #[.int .i64 b, .int .i64 l] 63
      generalize ((w.alloc (.cells #[.int .i64 r] 2)).alloc (.cells #[.int .i64 b, .int .i64 l] 63)) = W0 at q1 q2 hB0 hsz ⊢
      have cr := q1 0 _ rfl
      have c0 := q2 0 _ rfl
      have c1 := q2 1 _ rfl
      clear q1 q2
      refine (cW.out _).mono ?_
      rintro e w1 ⟨rfl, b1⟩
      have B1 := below2 hB0 b1
      replace cr := (b1.cell (p := ⟨w.heap.size, 0, none⟩) (by show w.heap.size < _; omega)).trans cr
      replace c0 := (b1.cell (p := ⟨w.heap.size + 1, 0, none⟩) hsz).trans c0
      replace c1 := (b1.cell (p := ⟨w.heap.size + 1, 1, none⟩) hsz).trans c1
      have cC1 := Lib.hid (cC.out w1 B1)
      clear b1
      go_wp2_with fail
      refine cC1.out.mono ?_
      rintro e w2 ⟨rfl, hd2⟩
      replace cr := (hd2.cell _).trans cr
      replace c0 := (hd2.cell _).trans c0
      replace c1 := (hd2.cell _).trans c1
      have B2 := below2 B1 hd2.below
      have hs2 := hd2.below.size
      clear hd2 B1 hB0
      go_wp2
      go_ret2
      exact gridRet_nil e1.out rfl B2
  have hq : q = true := hS0
  subst hq
  cases hok : okP G
  · have e1 : Hid (srV G r b l = []) := Lib.hid (by rw [hV0, hok]; rfl)
    rw [hok] at cC
    obtain ⟨a, cap, rfl, _⟩ := hv
    clear hV0 hok hS0 hwd hin
    rw [show cod8 false true = 1 from rfl] at cC ⊢
    go_enter Try.func36, Try.ntmps36
    go_wp2_with (go_at_call 65; refine (cI.out _).mono ?_; rintro e w' ⟨rfl, rfl⟩)
    all_goals skip
    obtain ⟨q1, q2, hB0, hsz⟩ := two_boxP w #[.int .i64 r] 2 #[.int .i64 b, .int .i64 l] 63
    generalize ((w.alloc (.cells #[.int .i64 r] 2)).alloc (.cells #[.int .i64 b, .int .i64 l] 63)) = W0 at q1 q2 hB0 hsz ⊢
    have cr := q1 0 _ rfl
    have c0 := q2 0 _ rfl
    have c1 := q2 1 _ rfl
    clear q1 q2
    refine (cW.out _).mono ?_
    rintro e w1 ⟨rfl, b1⟩
    have B1 := below2 hB0 b1
    replace cr := (b1.cell (p := ⟨w.heap.size, 0, none⟩) (by show w.heap.size < _; omega)).trans cr
    replace c0 := (b1.cell (p := ⟨w.heap.size + 1, 0, none⟩) hsz).trans c0
    replace c1 := (b1.cell (p := ⟨w.heap.size + 1, 1, none⟩) hsz).trans c1
    have cC1 := Lib.hid (cC.out w1 B1)
    clear b1
    go_wp2_with fail
    refine cC1.out.mono ?_
    rintro e w2 ⟨rfl, hd2⟩
    replace cr := (hd2.cell _).trans cr
    replace c0 := (hd2.cell _).trans c0
    replace c1 := (hd2.cell _).trans c1
    have B2 := below2 B1 hd2.below
    have hs2 := hd2.below.size
    clear hd2 B1 hB0
    go_wp2
    go_ret2
    exact gridRet_nil e1.out rfl B2
  have e1 : Hid (srV G r b l = srG r b l G.length (colsG G) (hG G)) := Lib.hid (by rw [hV0, hok]; rfl)
  obtain ⟨g, o, cap, rg, ro, rc, rfl, hGR⟩ := grid_GR hv (okP_okG hok)
  obtain ⟨hbb, hll⟩ := byB_bd hwd
  rw [hok] at cC
  have cM := Lib.hid (fun W (hb : Below w.heap.size w W) br hbr => scrape_any r b l hbb hll g o cap G.length (colsG G) rg ro rc (hG G) W (hGR.below hb) br hbr)
  obtain ⟨M, hM⟩ : ∃ M, M = srG r b l G.length (colsG G) (hG G) := ⟨_, rfl⟩
  rw [← hM] at cM e1
  clear hV0 hok hwd hM hbb hll hGR hv hS0 hin
  rw [show cod8 true true = 0 from rfl] at cC ⊢
  go_enter Try.func36, Try.ntmps36
  go_wp2_with (go_at_call 65; refine (cI.out _).mono ?_; rintro e w' ⟨rfl, rfl⟩)
  all_goals skip
  obtain ⟨q1, q2, hB0, hsz⟩ := two_boxP w #[.int .i64 r] 2 #[.int .i64 b, .int .i64 l] 63
  generalize ((w.alloc (.cells #[.int .i64 r] 2)).alloc (.cells #[.int .i64 b, .int .i64 l] 63)) = W0 at q1 q2 hB0 hsz ⊢
  have cr := q1 0 _ rfl
  have c0 := q2 0 _ rfl
  have c1 := q2 1 _ rfl
  clear q1 q2
  refine (cW.out _).mono ?_
  rintro e w1 ⟨rfl, b1⟩
  have B1 := below2 hB0 b1
  replace cr := (b1.cell (p := ⟨w.heap.size, 0, none⟩) (by show w.heap.size < _; omega)).trans cr
  replace c0 := (b1.cell (p := ⟨w.heap.size + 1, 0, none⟩) hsz).trans c0
  replace c1 := (b1.cell (p := ⟨w.heap.size + 1, 1, none⟩) hsz).trans c1
  have cC1 := Lib.hid (cC.out w1 B1)
  clear b1
  go_wp2_with fail
  refine cC1.out.mono ?_
  rintro e w2 ⟨rfl, hd2⟩
  replace cr := (hd2.cell _).trans cr
  replace c0 := (hd2.cell _).trans c0
  replace c1 := (hd2.cell _).trans c1
  have B2 := below2 B1 hd2.below
  have hs2 := hd2.below.size
  clear hd2 B1 hB0
  have cM1 := Lib.hid (cM.out w2 B2 w.heap.size cr)
  go_wp2_with fail
  refine cM1.out.mono ?_
  rintro e w3 ⟨v3, vs3, rfl, o3, b3⟩
  go_wp2
  go_ret2
  exact gridRet_mk e1.out rfl o3 B2.size (below2 B2 b3)
end Go.Proofs.Ytndnliaahdmbmaa
