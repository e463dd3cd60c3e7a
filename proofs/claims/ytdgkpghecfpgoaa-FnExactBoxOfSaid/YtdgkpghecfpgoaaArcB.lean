/-
  Outlines: the box of all joints, by the program.
-/
import Derived.Test.YtdgkpghecfpgoaaArcD
import Derived.Laws.Small
import Derived.Deep.Cut
import Derived.Deep.CutRange
import Derived.Deep.CutBlock
namespace Go.Proofs.Ytdgkpghecfpgoaa
open Go.ChangeShapes Go.WideShapes Go.ChangeAt Go.RowKit Go.Deep
set_option linter.unusedVariables false
set_option linter.unusedSimpArgs false
set_option maxRecDepth 1000000
structure Bx where
  lx : Int
  ly : Int
  gx : Int
  gy : Int
def mnI (x y : Int) : Int := if y < x then y else x
def mxI (x y : Int) : Int := if x < y then y else x
def bxOf (x : Arc) : Bx := ⟨x.fx, x.fy, x.fx, x.fy⟩
def bxAdd (b : Bx) (x : Arc) : Bx := ⟨mnI b.lx x.fx, mnI b.ly x.fy, mxI b.gx x.fx, mxI b.gy x.fy⟩
/-- the box of the first k arcs (of none: that of the first one) -/
def bxK (Z : List Arc) : Nat → Bx
  | 0 => bxOf (Z.getD 0 arc0)
  | k + 1 => bxAdd (bxK Z k) (Z.getD k arc0)
theorem bxK_one (Z : List Arc) : bxK Z 1 = bxOf (Z.getD 0 arc0) := by
  unfold bxK bxK bxAdd bxOf mnI mxI
  simp
theorem bxK_in {Z : List Arc} (h : outB Z = true) : ∀ k, k ≤ Z.length → ((-100000 ≤ (bxK Z k).lx ∧ (bxK Z k).lx ≤ 100000) ∧ (-100000 ≤ (bxK Z k).ly ∧ (bxK Z k).ly ≤ 100000)) ∧ ((-100000 ≤ (bxK Z k).gx ∧ (bxK Z k).gx ≤ 100000) ∧ (-100000 ≤ (bxK Z k).gy ∧ (bxK Z k).gy ≤ 100000))
  | 0, _ => by
    have hl := out_len h
    have h2 := ptB_bd (arc_bd (out_one h (show 0 < Z.length by omega))).2.1
    unfold bxK bxOf
    rw [getD_of _ (show 0 < Z.length by omega)]
    exact ⟨h2, h2⟩
  | k + 1, hk => by
    have h1 := bxK_in h k (by omega)
    have h2 := ptB_bd (arc_bd (out_one h (show k < Z.length by omega))).2.1
    unfold bxK bxAdd mnI mxI
    rw [getD_of _ (show k < Z.length by omega)]
    simp only
    repeat' split
    all_goals omega
def bxL (b : Bx) : List Int := [b.lx, b.ly, b.gx, b.gy]
def boxV (Z : List Arc) : List Int := if outB Z = true then bxL (bxK Z Z.length) else []
theorem boxV_in (Z : List Arc) : (∀ n ∈ boxV Z, inI n) ∧ (boxV Z).length ≤ 16 := by
  unfold boxV
  by_cases h : outB Z = true
  · rw [if_pos h]
    have := bxK_in h Z.length (Nat.le_refl _)
    refine ⟨fun n hn => ?_, by unfold bxL; simp⟩
    unfold bxL at hn
    simp only [List.mem_cons, List.not_mem_nil, or_false] at hn
    unfold inI
    omega
  · rw [if_neg h]; exact ⟨fun n hn => (by cases hn), by simp⟩
/-- two points of the call's own -/
def TwoPts (P Q : Nat) (x y x' y' : Int) (W : World) : Prop := W.there P 0 2 ∧ W.there Q 0 2 ∧ W.rangeAt P 0 [.int .i64 x, .int .i64 y] ∧ W.rangeAt Q 0 [.int .i64 x', .int .i64 y'] ∧ P < W.heap.size ∧ Q < W.heap.size ∧ P ≠ Q
theorem TwoPts.below {P Q : Nat} {x y x' y' : Int} {W W' : World} (h : TwoPts P Q x y x' y' W) (hb : Below W.heap.size W W') : TwoPts P Q x y x' y' W' := by
  obtain ⟨h1, h2, h3, h4, h5, h6, h7⟩ := h
  exact ⟨there_below h1 h5 hb, there_below h2 h6 hb, range_below h3 h5 hb, range_below h4 h6 hb, Nat.lt_of_lt_of_le h5 hb.size, Nat.lt_of_lt_of_le h6 hb.size, h7⟩
theorem TwoPts.set0 {P Q : Nat} {x y x' y' : Int} {W : World} (h : TwoPts P Q x y x' y' W) (u v : Int) : TwoPts P Q u v x' y' (W.setCells P 0 [.int .i64 u, .int .i64 v]) := by
  obtain ⟨h1, h2, h3, h4, h5, h6, h7⟩ := h
  exact ⟨World.there_setCells h1 _ _ _, World.there_setCells h2 _ _ _, World.rangeAt_setCells_same _ _ _ _ h1, World.rangeAt_setCells_apart h4 _ _ _ (Or.inl (by omega)), by rw [size_sets]; exact h5, by rw [size_sets]; exact h6, h7⟩
theorem TwoPts.set1 {P Q : Nat} {x y x' y' : Int} {W : World} (h : TwoPts P Q x y x' y' W) (u v : Int) : TwoPts P Q x y u v (W.setCells Q 0 [.int .i64 u, .int .i64 v]) := by
  obtain ⟨h1, h2, h3, h4, h5, h6, h7⟩ := h
  exact ⟨World.there_setCells h1 _ _ _, World.there_setCells h2 _ _ _, World.rangeAt_setCells_apart h3 _ _ _ (Or.inl (by omega)), World.rangeAt_setCells_same _ _ _ _ h2, by rw [size_sets]; exact h5, by rw [size_sets]; exact h6, h7⟩
theorem TwoPts.set0' {P Q : Nat} {x y x' y' u v u' v' : Int} {W : World} (h : TwoPts P Q x y x' y' W) (hu : u = u') (hv : v = v') : TwoPts P Q u' v' x' y' (W.setCells P 0 [.int .i64 u, .int .i64 v]) := by subst hu hv; exact h.set0 u v
theorem TwoPts.set1' {P Q : Nat} {x y x' y' u v u' v' : Int} {W : World} (h : TwoPts P Q x y x' y' W) (hu : u = u') (hv : v = v') : TwoPts P Q x y u' v' (W.setCells Q 0 [.int .i64 u, .int .i64 v]) := by subst hu hv; exact h.set1 u v
theorem TwoPts.cells {P Q : Nat} {x y x' y' : Int} {W : World} (h : TwoPts P Q x y x' y' W) : W.cell? ⟨P, 0, none⟩ = some (.int .i64 x) ∧ W.cell? ⟨P, 1, none⟩ = some (.int .i64 y) ∧ W.cell? ⟨Q, 0, none⟩ = some (.int .i64 x') ∧ W.cell? ⟨Q, 1, none⟩ = some (.int .i64 y') := by
  obtain ⟨h1, h2, h3, h4, h5, h6, h7⟩ := h
  exact ⟨by simpa using h3 0 _ rfl, by simpa using h3 1 _ rfl, by simpa using h4 0 _ rfl, by simpa using h4 1 _ rfl⟩
theorem twoPts_new (w : World) (x y x' y' : Int) (T T' : TypeId) : TwoPts w.heap.size (w.heap.size + 1) x y x' y' ((w.alloc (.cells #[.int .i64 x, .int .i64 y] T)).alloc (.cells #[.int .i64 x', .int .i64 y'] T')) ∧ TwoPts (w.heap.size + 1) w.heap.size x' y' x y ((w.alloc (.cells #[.int .i64 x, .int .i64 y] T)).alloc (.cells #[.int .i64 x', .int .i64 y'] T')) ∧ Below w.heap.size w ((w.alloc (.cells #[.int .i64 x, .int .i64 y] T)).alloc (.cells #[.int .i64 x', .int .i64 y'] T')) := by
  obtain ⟨q1, q2, hB, hs⟩ := two_boxes w #[.int .i64 x, .int .i64 y] T #[.int .i64 x', .int .i64 y'] T'
  have e : (w.alloc (.cells #[.int .i64 x, .int .i64 y] T)).heap.size = w.heap.size + 1 := by simp
  have f1 : ∀ j, ((w.alloc (.cells #[.int .i64 x, .int .i64 y] T)).alloc (.cells #[.int .i64 x', .int .i64 y'] T')).frozen? ⟨w.heap.size, j, none⟩ = false := fun j => (((Below.refl (w.alloc (.cells #[.int .i64 x, .int .i64 y] T)).heap.size (w.alloc (.cells #[.int .i64 x, .int .i64 y] T))).alloc (Nat.le_refl _) (.cells #[.int .i64 x', .int .i64 y'] T')).frozen (p := ⟨w.heap.size, j, none⟩) (by simp)).trans (freeB (heap_alloc_new w (.cells #[.int .i64 x, .int .i64 y] T)) j)
  have f2 := fun j => freeB (heap_alloc_new (w.alloc (.cells #[.int .i64 x, .int .i64 y] T)) (.cells #[.int .i64 x', .int .i64 y'] T')) j
  rw [e] at f2
  have t1 : ((w.alloc (.cells #[.int .i64 x, .int .i64 y] T)).alloc (.cells #[.int .i64 x', .int .i64 y'] T')).there w.heap.size 0 2 := fun j hj => by
    refine ⟨?_, f1 _⟩
    rw [Nat.zero_add]
    match j, hj with
    | 0, _ => rw [q1 0 _ rfl]; rfl
    | 1, _ => rw [q1 1 _ rfl]; rfl
  have t2 : ((w.alloc (.cells #[.int .i64 x, .int .i64 y] T)).alloc (.cells #[.int .i64 x', .int .i64 y'] T')).there (w.heap.size + 1) 0 2 := fun j hj => by
    refine ⟨?_, f2 _⟩
    rw [Nat.zero_add]
    match j, hj with
    | 0, _ => rw [q2 0 _ rfl]; rfl
    | 1, _ => rw [q2 1 _ rfl]; rfl
  have r1 : ((w.alloc (.cells #[.int .i64 x, .int .i64 y] T)).alloc (.cells #[.int .i64 x', .int .i64 y'] T')).rangeAt w.heap.size 0 [.int .i64 x, .int .i64 y] := fun j v hv => by rw [Nat.zero_add]; exact q1 j v (by simpa using hv)
  have r2 : ((w.alloc (.cells #[.int .i64 x, .int .i64 y] T)).alloc (.cells #[.int .i64 x', .int .i64 y'] T')).rangeAt (w.heap.size + 1) 0 [.int .i64 x', .int .i64 y'] := fun j v hv => by rw [Nat.zero_add]; exact q2 j v (by simpa using hv)
  exact ⟨⟨t1, t2, r1, r2, by omega, by omega, by omega⟩, ⟨t2, t1, r2, r1, by omega, by omega, by omega⟩, hB⟩
theorem sizePt : (Try.prog.info? 27).map (·.size) = some 2 := by kernel_rfl
theorem onePt (x y : Int) : (#[Value.int .i64 x, .int .i64 y] : Array Value).all (·.oneCell') = true := by simp [Value.oneCell']
theorem row4 (w : World) (a b c d : Int) : (w.alloc (.cells #[.int .i64 a, .int .i64 b, .int .i64 c, .int .i64 d] 2)).ownsRow w.heap.size 2 1 (.slice (some ⟨w.heap.size, 0, none⟩) 4 4) ([a, b, c, d] : List Int).length (([a, b, c, d] : List Int).map encI) :=
  ⟨rfl, Or.inr ⟨w.heap.size, 4, #[.int .i64 a, .int .i64 b, .int .i64 c, .int .i64 d], rfl, Nat.le_refl _, heap_alloc_new _ _, Nat.le_refl _, by unfold maxLen; omega, rfl, rfl⟩⟩
theorem l00Min_mn (x y : Int) (w : World) : Calls Try.prog 75 #[.int .i64 x, .int .i64 y] w fun e w' => e = .returned (.int .i64 (mnI x y)) ∧ w = w' := by
  by_cases h : x < y
  all_goals
    by_cases h' : y < x
    all_goals
      go_enter Try.func75, Try.ntmps75
      go_wp2
      go_ret
      exact ⟨ret_int (by unfold mnI; split <;> omega), rfl⟩
theorem l00Max_mx (x y : Int) (w : World) : Calls Try.prog 76 #[.int .i64 x, .int .i64 y] w fun e w' => e = .returned (.int .i64 (mxI x y)) ∧ w = w' := by
  by_cases h : x < y
  all_goals
    by_cases h' : y < x
    all_goals
      go_enter Try.func76, Try.ntmps76
      go_wp2
      go_ret
      exact ⟨ret_int (by unfold mxI; split <;> omega), rfl⟩
set_option maxHeartbeats 3200000 in
theorem implBoxOf_any (v : Value) (Z : List Arc) (w : World) (hn : Z.length ≤ 1048576) (hv : ArcsAt w v Z) : Calls Try.prog 45 #[v] w (RowC (boxV Z) (okC Z) w) := by
  have cO := Lib.hid (implValidOutline_any v Z w hn hv)
  cases hout0 : outB Z
  · have hc1 : Hid (boxV Z = [] ∧ okC Z = 1) := Lib.hid (by unfold boxV okC; rw [hout0]; exact ⟨rfl, rfl⟩)
    rw [hout0] at cO
    go_enter Try.func45, Try.ntmps45
    go_wp2_with (go_at_call 21; (with_reducible refine cO.out.mono ?_); rintro e w1 ⟨rfl, hbel1⟩)
    go_ret2
    exact rowC_nil hc1.out.1 hc1.out.2 hbel1
  have hlen := out_len hout0
  have hout := Lib.hid hout0
  rw [hout0] at cO
  have hv0 := Lib.hid hv
  obtain ⟨p, cap, rfl, hcap, _, hread0⟩ := hv
  clear hread0 hout0
  go_enter Try.func45, Try.ntmps45
  go_wp2_with (go_at_call 21; (with_reducible refine cO.out.mono ?_); rintro e w1 ⟨rfl, hbel1⟩)
  have hread' : Hid _ := Lib.hid hv0.out
  have hb1 := Lib.hid hbel1
  clear hbel1 cO hv0
  rcases (hread'.out) with ⟨p2, cap2, hpe, _, _, hread⟩
  injection hpe with hp1 _ hp3
  subst hp1 hp3
  rcases hread with h | ⟨g, o, rfl, hg, hc⟩
  · subst h; simp at hlen
  obtain ⟨x, hx⟩ : ∃ x, x = Z[0]'(by omega) := ⟨_, rfl⟩
  have hr := range_below (hc 0 (by omega)) hg hb1.out
  rw [← hx] at hr
  have P1 := arcAt_of hr
  rw [Nat.zero_mul, Nat.add_zero] at P1
  have hst : Hid (bxK Z 0 = bxOf x) := Lib.hid (by unfold bxK; rw [getD_of _ (show 0 < Z.length by omega), ← hx])
  have hgr : g < w1.heap.size := Nat.lt_of_lt_of_le hg hb1.out.size
  have h0N : 0 < Z.length := by omega
  have h0I : (0 : Int) < (Z.length : Int) := by omega
  obtain ⟨a, b, c, d, p, s⟩ := x
  have hS : (w1.cell? ⟨g, o + 2, none⟩ = some (.int .i64 c) ∧ w1.cell? ⟨g, o + 3, none⟩ = some (.int .i64 d)) ∧ Below w1.heap.size w1 w1 := ⟨⟨P1.2.2.1, P1.2.2.2.1⟩, Below.refl _ _⟩
  have keep : ∀ W, Below w1.heap.size w1 W → ((W.cell? ⟨g, o + 2, none⟩ = some (.int .i64 c) ∧ W.cell? ⟨g, o + 3, none⟩ = some (.int .i64 d)) ∧ Below w1.heap.size w1 W) := fun W h2 =>
    ⟨⟨(h2.cell (p := ⟨g, _, none⟩) hgr).trans P1.2.2.1, (h2.cell (p := ⟨g, _, none⟩) hgr).trans P1.2.2.2.1⟩, h2⟩
  have keepH := Lib.hid keep
  have hcAll := Lib.hid hc
  have hgAll := hg
  clear keep P1 hr hx hc
  go_upto_region 3 with fail
  go_cut [4, 5] from 11 to 18 (fun s4 s5 wx => ∃ P Q : Nat, s4 = .pointer (some ⟨P, 0, none⟩) ∧ s5 = .pointer (some ⟨Q, 0, none⟩) ∧ w.heap.size ≤ P ∧ w.heap.size ≤ Q ∧ Hid (TwoPts P Q c d c d wx) ∧ Hid (Below w.heap.size w wx))
  case first =>
    go_region_held3 (fun w' => (w'.cell? ⟨g, o + 2, none⟩ = some (.int .i64 c) ∧ w'.cell? ⟨g, o + 3, none⟩ = some (.int .i64 d)) ∧ Below w1.heap.size w1 w')
      (first | (refine keepH.out _ ?_; repeat (first | exact Below.refl _ _ | (refine belowN ?_ 1) | (refine Below.alloc ?_ (by simp <;> omega) _))) | assumption)
      (fail)
    all_goals go_wp2_with fail
    all_goals go_meet
    · exact ⟨_, _, rfl, rfl, hb1.out.size, by have := hb1.out.size; omega, Lib.hid ((twoPts_new w1 c d c d _ _).1.below (belowN (Below.refl _ _) 1)), Lib.hid (below2 hb1.out (belowN (twoPts_new w1 c d c d _ _).2.2 1))⟩
    · exact ⟨_, _, rfl, rfl, by have := hb1.out.size; omega, hb1.out.size, Lib.hid ((twoPts_new w1 c d c d _ _).2.1.below (belowN (Below.refl _ _) 1)), Lib.hid (below2 hb1.out (belowN (twoPts_new w1 c d c d _ _).2.2 1))⟩
  case rest =>
    obtain ⟨P, Q, rfl, rfl, hP, hQ, hT, hbx⟩ := hcut
    have hP' := Lib.hid hP
    have hQ' := Lib.hid hQ
    clear hS keepH h0N h0I hb1 hP hQ hgr
    go_wp2
    go_loopw [21] (fun i wr => ∃ (k : Nat) (b : Bx), k ≤ Z.length ∧ i = .int .i64 k ∧ Hid (b = bxK Z k) ∧ Hid (TwoPts P Q b.lx b.ly b.gx b.gy wr) ∧ Hid (Below w.heap.size w wr)) (fun i _ => Z.length - (intOf i).toNat)
    case atStart => exact ⟨0, _, by omega, rfl, Lib.hid hst.out.symm, hT, hbx⟩
    case round =>
      obtain ⟨k, bb, hk, rfl, hbb, hT0, hbel0⟩ := hrel
      have hb := hbel0.out
      by_cases hlt : k < Z.length
      · have hc := hcAll.out
        have hg := hgAll
        obtain ⟨x, hx⟩ : ∃ x, x = Z[k] := ⟨_, rfl⟩
        have hr := range_below (hc k hlt) hg hb
        have hx1 := out_one hout.out hlt
        rw [← hx] at hr hx1
        have hgr : g < wr.heap.size := Nat.lt_of_lt_of_le hg hb.size
        have hxk : Hid (Z.getD k arc0 = x) := Lib.hid (by rw [getD_of _ hlt, ← hx])
        have P1 := arcAt_of hr
        have hkI : (k : Int) < (Z.length : Int) := by omega
        clear hx hc
        obtain ⟨a, b, c, d, p, s⟩ := x
        obtain ⟨hx2, hx3, hx4⟩ := arc_bd hx1
        simp only at hx2 hx3 hx4
        have hr1 : wr.rangeAt g (o + k * 6) [.int .i64 a, .int .i64 b, .int .i64 c, .int .i64 d, .int .i64 p, .int .i64 s] := hr
        obtain ⟨lx, ly, gx, gy⟩ := bb
        simp only at hT0
        have hnew : Hid (bxAdd ⟨lx, ly, gx, gy⟩ ⟨a, b, c, d, p, s⟩ = bxK Z (k + 1)) := Lib.hid (by
          show _ = bxAdd (bxK Z k) (Z.getD k arc0)
          rw [hxk.out, ← hbb.out])
        clear hr hx1 hx2 hx3 hx4 P1
        go_upto_region 7 with (refine wpList_load_mid rfl _ _ rfl g (o + k * 6) rfl _ _ hr1 Try.underlying29 rfl rfl ?_)
        obtain ⟨q1, hB0, hsz⟩ := one_box wr #[.int .i64 a, .int .i64 b, .int .i64 c, .int .i64 d, .int .i64 p, .int .i64 s] 29
        have hT1 := hT0.out.below hB0
        generalize hBx : wr.heap.size = B at q1 hsz ⊢
        generalize (wr.alloc (.cells #[.int .i64 a, .int .i64 b, .int .i64 c, .int .i64 d, .int .i64 p, .int .i64 s] 29)) = W0 at q1 hB0 hT1 hsz ⊢
        have hPB : P ≠ B := by have := hT0.out.2.2.2.2.1; omega
        have hQB : Q ≠ B := by have := hT0.out.2.2.2.2.2.1; omega
        have hRB : W0.rangeAt B 0 [.int .i64 a, .int .i64 b, .int .i64 c, .int .i64 d, .int .i64 p, .int .i64 s] := fun j v hv => by rw [Nat.zero_add]; exact q1 j v (by simpa using hv)
        have hbW := Lib.hid (below2 hb hB0)
        have hT2 := Lib.hid hT1
        have hRB2 := Lib.hid hRB
        clear q1 hB0 hBx hr1 hT1 hRB
        go_cut [] from 25 to 37 (fun wx => Hid (TwoPts P Q (mnI lx c) (mnI ly d) gx gy wx) ∧ Hid (wx.rangeAt B 0 [.int .i64 a, .int .i64 b, .int .i64 c, .int .i64 d, .int .i64 p, .int .i64 s]) ∧ B < wx.heap.size ∧ Hid (Below w.heap.size w wx))
        case first =>
          obtain ⟨m0, m1, m2, m3⟩ := hT2.out.cells
          have n2 : W0.cell? ⟨B, 2, none⟩ = some (.int .i64 c) := by simpa using hRB2.out 2 _ rfl
          have n3 : W0.cell? ⟨B, 3, none⟩ = some (.int .i64 d) := by simpa using hRB2.out 3 _ rfl
          go_wp2_with (refine wpList_store_mid rfl _ _ _ rfl _ _ _ rfl rfl ?_ sizePt (onePt _ _) ?_; (exact hT2.out.1))
          all_goals go_meet
          all_goals exact ⟨Lib.hid (hT2.out.set0' (by unfold mnI; split <;> omega) (by unfold mnI; split <;> omega)), Lib.hid (World.rangeAt_setCells_apart hRB2.out _ _ _ (Or.inl (by omega))), by rw [size_sets]; exact hsz, Lib.hid (below_sets hP'.out _ _ _ hbW.out)⟩
        case rest =>
          obtain ⟨hT3, hRB3, hsz3, hbW3⟩ := hcut
          clear hT2 hRB2 hsz hbW
          go_upto_region 8 with fail
          obtain ⟨m0, m1, m2, m3⟩ := hT3.out.cells
          have n2 : wc.cell? ⟨B, 2, none⟩ = some (.int .i64 c) := by simpa using hRB3.out 2 _ rfl
          have n3 : wc.cell? ⟨B, 3, none⟩ = some (.int .i64 d) := by simpa using hRB3.out 3 _ rfl
          go_wp2_with (refine wpList_store_mid rfl _ _ _ rfl _ _ _ rfl rfl ?_ sizePt (onePt _ _) ?_; (exact hT3.out.2.1))
          all_goals go_roundw
          all_goals first
            | (simp [intOf]; omega; done)
            | exact ⟨k + 1, ⟨mnI lx c, mnI ly d, mxI gx c, mxI gy d⟩, by omega, by go_num, hnew, Lib.hid (show TwoPts P Q (mnI lx c) (mnI ly d) (mxI gx c) (mxI gy d) _ from hT3.out.set1' (by unfold mxI; split <;> omega) (by unfold mxI; split <;> omega)), Lib.hid (below_sets hQ'.out _ _ _ hbW3.out)⟩
      · obtain rfl : k = Z.length := by omega
        obtain ⟨lx, ly, gx, gy⟩ := bb
        simp only at hT0
        have hfin : Hid (boxV Z = [lx, ly, gx, gy] ∧ okC Z = 0) := Lib.hid (by unfold boxV okC; rw [hout.out, if_pos rfl, ← hbb.out]; exact ⟨rfl, rfl⟩)
        obtain ⟨m0, m1, m2, m3⟩ := hT0.out.cells
        go_wp2
        go_ret2
        exact rowC_mk hfin.out.1 hfin.out.2 hb.size (row4 wr lx ly gx gy) (hb.alloc hb.size _)
    done
set_option maxHeartbeats 3200000 in
theorem specBoxOf_any (v : Value) (Z : List Arc) (w : World) (hn : Z.length ≤ 1048576) (hv : ArcsAt w v Z) : Calls Try.prog 44 #[v] w (RowC (boxV Z) (okC Z) w) := by
  have cO := Lib.hid (l05Ok_any v Z w hn hv)
  cases hout0 : outB Z
  · have hc1 : Hid (boxV Z = [] ∧ okC Z = 1) := Lib.hid (by unfold boxV okC; rw [hout0]; exact ⟨rfl, rfl⟩)
    rw [hout0] at cO
    go_enter Try.func44, Try.ntmps44
    go_wp2_with (go_at_call 52; (with_reducible refine cO.out.mono ?_); rintro e w' ⟨rfl, hbel⟩)
    go_ret2
    exact rowC_nil hc1.out.1 hc1.out.2 hbel
  have hlen := out_len hout0
  have hout := Lib.hid hout0
  rw [hout0] at cO
  obtain ⟨p, cap, rfl, hcap, _, hread⟩ := hv
  rcases hread with h | ⟨g, o, rfl, hg, hc0⟩
  · subst h; simp at hlen
  have hcAll := Lib.hid hc0
  obtain ⟨x0, hx0⟩ : ∃ x, x = Z[0]'(by omega) := ⟨_, rfl⟩
  have hr0 := hc0 0 (by omega)
  rw [← hx0, Nat.zero_mul, Nat.add_zero] at hr0
  have hst : Hid (bxK Z 1 = bxOf x0) := Lib.hid (by rw [bxK_one, getD_of _ (show 0 < Z.length by omega), ← hx0])
  have h0N : 0 < Z.length := by omega
  have h0I : (0 : Int) < (Z.length : Int) := by omega
  obtain ⟨a, b, c, d, p, s⟩ := x0
  clear hout0 hc0 hx0
  go_enter Try.func44, Try.ntmps44
  go_upto_region 3 with (go_at_call 52; (with_reducible refine cO.out.mono ?_); rintro e w1 ⟨rfl, hbel⟩)
  have P0 := arcAt_of (range_below hr0 hg hbel)
  have k2 := P0.2.2.1
  have k3 := P0.2.2.2.1
  simp only at k2 k3
  have hb1 := Lib.hid hbel
  clear hbel cO P0
  go_wp2
  have hro := own_low (row4 (w1.alloc (.cells #[.int .i64 c, .int .i64 d] 27)) c d c d) (B' := w.heap.size) (by have := hb1.out.size; simp; omega)
  have hbb := hb1.out.alloc hb1.out.size (.cells #[.int .i64 c, .int .i64 d] 27)
  have hbb2 := Lib.hid (hbb.alloc hbb.size (.cells #[.int .i64 c, .int .i64 d, .int .i64 c, .int .i64 d] 2))
  rw [show (w1.alloc (.cells #[.int .i64 c, .int .i64 d] 27)).heap.size = w1.heap.size + 1 by simp] at hro
  have hro' := Lib.hid hro
  clear hro hbb k2 k3 hr0 h0N h0I
  go_loopw [5, 6] (fun u i wr => ∃ (k r : Nat) (b : Bx), 0 < k ∧ k ≤ Z.length ∧ i = .int .i64 k ∧ u = .slice (some ⟨r, 0, none⟩) 4 4 ∧ Hid (b = bxK Z k) ∧ Hid (wr.ownsRow w.heap.size 2 1 (.slice (some ⟨r, 0, none⟩) 4 4) (bxL b).length ((bxL b).map encI)) ∧ Hid (Below w.heap.size w wr)) (fun _ i _ => Z.length - (intOf i).toNat)
  case atStart => exact ⟨1, _, bxOf ⟨a, b, c, d, p, s⟩, by omega, by omega, rfl, rfl, Lib.hid hst.out.symm, hro', hbb2⟩
  case round =>
    obtain ⟨k, r, bb, hk0, hk, rfl, rfl, hbb3, hro3, hbel0⟩ := hrel
    obtain ⟨lx, ly, gx, gy⟩ := bb
    have hb := hbel0.out
    by_cases hlt : k < Z.length
    · have hc := hcAll.out
      obtain ⟨x, hx⟩ : ∃ x, x = Z[k] := ⟨_, rfl⟩
      have hr := range_below (hc k hlt) hg hb
      have hx1 := out_one hout.out hlt
      rw [← hx] at hr hx1
      have hgr : g < wr.heap.size := Nat.lt_of_lt_of_le hg hb.size
      have hxk : Hid (Z.getD k arc0 = x) := Lib.hid (by rw [getD_of _ hlt, ← hx])
      have P1 := arcAt_of hr
      have hkI : (k : Int) < (Z.length : Int) := by omega
      clear hx hc
      obtain ⟨a1, b1, c1, d1, p1, s1⟩ := x
      obtain ⟨hx2, hx3, hx4⟩ := arc_bd hx1
      simp only at hx2 hx3 hx4
      have hnew : Hid (bxAdd ⟨lx, ly, gx, gy⟩ ⟨a1, b1, c1, d1, p1, s1⟩ = bxK Z (k + 1)) := Lib.hid (by
        show _ = bxAdd (bxK Z k) (Z.getD k arc0)
        rw [hxk.out, ← hbb3.out])
      have y2 := P1.2.2.1
      have y3 := P1.2.2.2.1
      simp only at y2 y3
      have ho := hro3.out
      have r0 : wr.cell? ⟨r, 0, none⟩ = some (.int .i64 lx) := (ho.cellAt 0 (by simp [bxL])).trans rfl
      have r1 : wr.cell? ⟨r, 1, none⟩ = some (.int .i64 ly) := (ho.cellAt 1 (by simp [bxL])).trans rfl
      have r2 : wr.cell? ⟨r, 2, none⟩ = some (.int .i64 gx) := (ho.cellAt 2 (by simp [bxL])).trans rfl
      have r3 : wr.cell? ⟨r, 3, none⟩ = some (.int .i64 gy) := (ho.cellAt 3 (by simp [bxL])).trans rfl
      have hrl : r < wr.heap.size := (ho.lt r rfl).2
      have hro4 := hro3
      clear hr hx1 hx2 hx3 hx4 P1 ho hro3
      go_upto_region 9 with fail
      have hroA := (hro4.out).alloc (.cells #[.int .i64 c1, .int .i64 d1] 27)
      obtain ⟨q1, hB0, hsz⟩ := one_box wr #[.int .i64 c1, .int .i64 d1] 27
      generalize hBx : wr.heap.size = B at q1 hsz ⊢
      generalize (wr.alloc (.cells #[.int .i64 c1, .int .i64 d1] 27)) = W0 at q1 hB0 hsz hroA ⊢
      have hrW : r < W0.heap.size := Nat.lt_of_lt_of_le hrl hB0.size
      have hbW := Lib.hid (below2 hb hB0)
      have hroA' := Lib.hid hroA
      have hS : ((W0.cell? ⟨r, 0, none⟩ = some (.int .i64 lx) ∧ W0.cell? ⟨r, 1, none⟩ = some (.int .i64 ly) ∧ W0.cell? ⟨r, 2, none⟩ = some (.int .i64 gx) ∧ W0.cell? ⟨r, 3, none⟩ = some (.int .i64 gy)) ∧ (W0.cell? ⟨B, 0, none⟩ = some (.int .i64 c1) ∧ W0.cell? ⟨B, 1, none⟩ = some (.int .i64 d1)) ∧ Below W0.heap.size W0 W0) := ⟨⟨(hB0.cell (p := ⟨r, _, none⟩) hrl).trans r0, (hB0.cell (p := ⟨r, _, none⟩) hrl).trans r1, (hB0.cell (p := ⟨r, _, none⟩) hrl).trans r2, (hB0.cell (p := ⟨r, _, none⟩) hrl).trans r3⟩, ⟨q1 0 _ rfl, q1 1 _ rfl⟩, Below.refl _ _⟩
      have keep : ∀ W, Below W0.heap.size W0 W → ((W.cell? ⟨r, 0, none⟩ = some (.int .i64 lx) ∧ W.cell? ⟨r, 1, none⟩ = some (.int .i64 ly) ∧ W.cell? ⟨r, 2, none⟩ = some (.int .i64 gx) ∧ W.cell? ⟨r, 3, none⟩ = some (.int .i64 gy)) ∧ (W.cell? ⟨B, 0, none⟩ = some (.int .i64 c1) ∧ W.cell? ⟨B, 1, none⟩ = some (.int .i64 d1)) ∧ Below W0.heap.size W0 W) := fun W h2 => by
        obtain ⟨⟨a0, a1, a2, a3⟩, ⟨a4, a5⟩, _⟩ := hS
        exact ⟨⟨(h2.cell (p := ⟨r, _, none⟩) hrW).trans a0, (h2.cell (p := ⟨r, _, none⟩) hrW).trans a1, (h2.cell (p := ⟨r, _, none⟩) hrW).trans a2, (h2.cell (p := ⟨r, _, none⟩) hrW).trans a3⟩, ⟨(h2.cell (p := ⟨B, _, none⟩) hsz).trans a4, (h2.cell (p := ⟨B, _, none⟩) hsz).trans a5⟩, h2⟩
      have keepH := Lib.hid keep
      clear keep q1 hBx hroA r0 r1 r2 r3 y2 y3
      go_region_held3 (fun w' => ((w'.cell? ⟨r, 0, none⟩ = some (.int .i64 lx) ∧ w'.cell? ⟨r, 1, none⟩ = some (.int .i64 ly) ∧ w'.cell? ⟨r, 2, none⟩ = some (.int .i64 gx) ∧ w'.cell? ⟨r, 3, none⟩ = some (.int .i64 gy)) ∧ (w'.cell? ⟨B, 0, none⟩ = some (.int .i64 c1) ∧ w'.cell? ⟨B, 1, none⟩ = some (.int .i64 d1)) ∧ Below W0.heap.size W0 w'))
        (first | assumption | (refine keepH.out _ ?_; repeat (first | exact Below.refl _ _ | (refine belowN ?_ 1) | (refine Below.alloc ?_ (by simp <;> omega) _))))
        (first | (go_at_call 75; (with_reducible refine (l00Min_mn _ _ _).mono ?_); rintro e w' ⟨rfl, rfl⟩) | (go_at_call 76; (with_reducible refine (l00Max_mx _ _ _).mono ?_); rintro e w' ⟨rfl, rfl⟩))
      have hrow := Lib.hid (own_kept (own_low (row4 W0 (mnI lx c1) (mnI ly d1) (mxI gx c1) (mxI gy d1)) hbW.out.size) (belowN (Below.refl _ _) 1))
      have hbel5 := Lib.hid (belowN (hbW.out.alloc hbW.out.size (.cells #[.int .i64 (mnI lx c1), .int .i64 (mnI ly d1), .int .i64 (mxI gx c1), .int .i64 (mxI gy d1)] 2)) 1)
      clear hS keepH hroA' hrW hsz
      go_wp2
      go_roundw
      case rel => exact ⟨k + 1, W0.heap.size, ⟨mnI lx c1, mnI ly d1, mxI gx c1, mxI gy d1⟩, by omega, by omega, by go_num, rfl, hnew, hrow, hbel5⟩
      case measure => simp [intOf]; omega
    · obtain rfl : k = Z.length := by omega
      have hfin : Hid (boxV Z = bxL ⟨lx, ly, gx, gy⟩ ∧ okC Z = 0) := Lib.hid (by unfold boxV okC; rw [hout.out, if_pos rfl, ← hbb3.out]; exact ⟨rfl, rfl⟩)
      go_wp2
      go_ret2
      exact rowC_mk hfin.out.1 hfin.out.2 (Nat.le_refl _) hro3.out hb
end Go.Proofs.Ytdgkpghecfpgoaa
