/-
  Outlines at another place and mirrored: by the model.
-/
import Derived.Test.YtdgkpghecfpgoaaArcP
import Derived.Deep.AppendLies
import Derived.Deep.Cut
import Derived.Deep.CutRange
namespace Go.Proofs.Ytdgkpghecfpgoaa
open Go.ChangeShapes Go.WideShapes Go.ChangeAt Go.RowKit Go.Deep
set_option linter.unusedVariables false
set_option linter.unusedSimpArgs false
set_option maxRecDepth 1000000
theorem ownA_row {w : World} {B : Nat} {v : Value} {L : List Arc} (h : w.ownsRow B 29 6 v L.length (flatA L)) : OwnA B v L w := by
  have h0 := h
  rcases h.2 with ⟨rfl, hz⟩ | ⟨g, cap, cur, rfl, hg, hh, hn, hcap, hs, hx⟩
  · obtain rfl : L = [] := List.eq_nil_of_length_eq_zero hz
    exact ownA_nil _ _
  · have hlt := (h0.lt g rfl).2
    refine ⟨⟨_, cap, rfl, hn, fun _ _ => trivial, Or.inr ⟨g, 0, rfl, hlt, fun i hi j u hu => ?_⟩⟩, Or.inr ⟨g, cap, rfl, hg, hlt, there_own h0⟩⟩
    have hj : j < 6 := by have := (List.getElem?_eq_some_iff.1 hu).1; rwa [cells_six] at this
    rw [Nat.zero_add]
    exact (h0.cellAt (i * 6 + j) (by omega)).trans ((flatA_get L i hi j hj).trans hu)
theorem rowA_start (w : World) : (w.alloc (.cells #[] 29)).ownsRow w.heap.size 29 6 (.slice (some ⟨w.heap.size, 0, none⟩) 0 0) ([] : List Arc).length (flatA []) :=
  ⟨rfl, Or.inr ⟨w.heap.size, 0, #[], rfl, Nat.le_refl _, heap_alloc_new _ _, Nat.le_refl 0, by unfold maxLen; omega, rfl, rfl⟩⟩
theorem own_drew {w : World} {B e size n : Nat} {v : Value} {xs : List Value} (h : w.ownsRow B e size v n xs) : w.drew.ownsRow B e size v n xs := own_kept h (belowN (Below.refl _ _) 1)
def mv1 (x y : Int) (a : Arc) : Arc := ⟨a.cx + x, a.cy + y, a.fx + x, a.fy + y, a.tx + x, a.ty + y⟩
def mir1 (a : Arc) : Arc := ⟨-a.cx, a.cy, -a.tx, a.ty, -a.fx, a.fy⟩
theorem l05Moved_any (a b x y : Int) (ha : -100000 ≤ a ∧ a ≤ 100000) (hb : -100000 ≤ b ∧ b ≤ 100000) (hx : -100000 ≤ x ∧ x ≤ 100000) (hy : -100000 ≤ y ∧ y ≤ 100000) (w : World) : Calls Try.prog 65 #[.agg #[.int .i64 a, .int .i64 b], .int .i64 x, .int .i64 y] w fun e w' => e = .returned (.agg #[.int .i64 (a + x), .int .i64 (b + y)]) ∧ Below w.heap.size w w' := by
  go_enter Try.func65, Try.ntmps65
  go_wp2
  exact bodyPost_ret (v := .agg #[.int .i64 (a + x), .int .i64 (b + y)]) (by simp [results, Try.results65, go_sem]) rfl ⟨rfl, by first | exact (Below.refl _ _).alloc (Nat.le_refl _) _ | exact ((Below.refl _ _).alloc (Nat.le_refl _) _).alloc (by simp) _⟩
theorem l05Flip_any (a b : Int) (ha : -100000 ≤ a ∧ a ≤ 100000) (w : World) : Calls Try.prog 69 #[.agg #[.int .i64 a, .int .i64 b]] w fun e w' => e = .returned (.agg #[.int .i64 (-a), .int .i64 b]) ∧ Below w.heap.size w w' := by
  go_enter Try.func69, Try.ntmps69
  go_wp2
  exact bodyPost_ret (v := .agg #[.int .i64 (-a), .int .i64 b]) (by simp [results, Try.results69, go_sem]) rfl ⟨rfl, by first | exact (Below.refl _ _).alloc (Nat.le_refl _) _ | exact ((Below.refl _ _).alloc (Nat.le_refl _) _).alloc (by simp) _⟩
def mvK (x y : Int) (Z : List Arc) (k : Nat) : List Arc := (List.range k).map (fun i => mv1 x y (Z.getD i arc0))
theorem mvK_succ (x y : Int) (Z : List Arc) (k : Nat) : mvK x y Z (k + 1) = mvK x y Z k ++ [mv1 x y (Z.getD k arc0)] := by unfold mvK; rw [List.range_succ, List.map_append]; rfl
theorem mvK_len (x y : Int) (Z : List Arc) (k : Nat) : (mvK x y Z k).length = k := by unfold mvK; simp
theorem flatA_app (L : List Arc) (a : Arc) : flatA (L ++ [a]) = flatA L ++ a.cells := by unfold flatA; rw [List.flatMap_append]; simp
def mvB (Z : List Arc) (x y : Int) : Bool := outB (mvK x y Z Z.length)
def mvC (Z : List Arc) (x y : Int) : Int := if outB Z = true then (if ptB x y = true then (if mvB Z x y = true then 0 else 5) else 2) else 1
def mvV (Z : List Arc) (x y : Int) : List Arc := if mvC Z x y = 0 then mvK x y Z Z.length else []
theorem mv_bad {Z : List Arc} {x y c : Int} (e : mvC Z x y = c) (hc : c ≠ 0) : mvV Z x y = [] ∧ mvC Z x y = c := by unfold mvV; rw [e, if_neg hc]; exact ⟨rfl, rfl⟩
theorem mv_good {Z : List Arc} {x y : Int} (e : mvC Z x y = 0) : mvV Z x y = mvK x y Z Z.length ∧ mvC Z x y = 0 := by unfold mvV; rw [e, if_pos rfl]; exact ⟨rfl, rfl⟩
set_option maxHeartbeats 6400000 in
theorem specMoveOutline_any (v : Value) (Z : List Arc) (x y : Int) (w : World) (hn : Z.length ≤ 1048576) (hv : ArcsAt w v Z) : Calls Try.prog 38 #[v, .int .i64 x, .int .i64 y] w (RowA (mvV Z x y) (mvC Z x y) w) := by
  obtain ⟨i0, hi, hz0, hz1, hz2⟩ := info_parts infoArc
  have cO := Lib.hid (l05Ok_any v Z w hn hv)
  cases hout0 : outB Z
  · have hc1 := Lib.hid (mv_bad (Z := Z) (x := x) (y := y) (c := 1) (by unfold mvC; rw [hout0]; rfl) (by decide))
    rw [hout0] at cO
    go_enter Try.func38, Try.ntmps38
    go_wp2_with (go_at_call 52; (with_reducible refine cO.out.mono ?_); rintro e w' ⟨rfl, hbel⟩)
    go_ret2
    exact rowA_nil hc1.out.1 hc1.out.2 hbel
  rw [hout0] at cO
  have cP := fun W => l05Point_any x y W
  cases hpt : ptB x y
  · have hc1 := Lib.hid (mv_bad (Z := Z) (x := x) (y := y) (c := 2) (by unfold mvC; rw [hout0, hpt]; rfl) (by decide))
    rw [hpt] at cP
    have cP' := Lib.hid cP
    clear cP
    go_enter Try.func38, Try.ntmps38
    go_wp2_with (first | (go_at_call 52; (with_reducible refine cO.out.mono ?_); rintro e w' ⟨rfl, hbel⟩) | (go_at_call 64; (with_reducible refine (cP'.out _).mono ?_); rintro e w2 ⟨rfl, hbel2⟩))
    go_ret2
    exact rowA_nil hc1.out.1 hc1.out.2 (below2 hbel hbel2)
  rw [hpt] at cP
  have cP' := Lib.hid cP
  obtain ⟨hx, hy⟩ := ptB_bd hpt
  have hlen := out_len hout0
  have hout := Lib.hid hout0
  have hptH := Lib.hid hpt
  have hv0 := Lib.hid hv
  obtain ⟨p, cap, rfl, hcap, _, hread0⟩ := hv
  clear hread0 hout0 hpt cP
  go_enter Try.func38, Try.ntmps38
  go_wp2_with (first | (go_at_call 52; (with_reducible refine cO.out.mono ?_); rintro e w1 ⟨rfl, hbel⟩) | (go_at_call 64; (with_reducible refine (cP'.out _).mono ?_); rintro e w2 ⟨rfl, hbel2⟩))
  have hread' : Hid _ := Lib.hid hv0.out
  have hb12 := below2 hbel hbel2
  have hb1 := Lib.hid (hb12.alloc hb12.size (.cells #[] 29))
  have hown0 := own_low (rowA_start w2) hb12.size
  clear hbel hbel2 cO cP' hv0 hb12
  go_loopw [8, 9] (fun u i wr => ∃ (k : Nat) (L : List Arc), k ≤ Z.length ∧ i = .int .i64 k ∧ Hid (L = mvK x y Z k) ∧ L.length = k ∧ wr.ownsRow w.heap.size 29 6 u L.length (flatA L) ∧ Hid (Below w.heap.size w wr)) (fun _ i _ => Z.length - (intOf i).toNat)
  case atStart => exact ⟨0, [], by omega, rfl, Lib.hid rfl, rfl, hown0, hb1⟩
  case round =>
    obtain ⟨k, L, hk, rfl, hL, hLk, hown, hbel0⟩ := hrel
    have hb := hbel0.out
    by_cases hlt : k < Z.length
    · obtain ⟨p2, cap2, hpe, _, _, hread⟩ := hread'.out
      injection hpe with hp1 _ hp3
      subst hp1 hp3
      rcases hread with h | ⟨g, o, rfl, hg, hc⟩
      · subst h; simp at hlt
      obtain ⟨x, hx⟩ : ∃ x, x = Z[k] := ⟨_, rfl⟩
      have hr := range_below (hc k hlt) hg hb
      have hx1 := out_one hout.out hlt
      rw [← hx] at hr hx1
      have hgr : g < wr.heap.size := Nat.lt_of_lt_of_le hg hb.size
      have hxk : Hid (Z.getD k arc0 = x) := Lib.hid (by rw [getD_of _ hlt, ← hx])
      have P1 := arcAt_of hr
      have hkI : (k : Int) < (Z.length : Int) := by omega
      clear hx hc
      obtain ⟨a, b, c, d, p, s⟩ := x
      obtain ⟨hx2, hx3, hx4⟩ := arc_bd hx1
      simp only at hx2 hx3 hx4
      have b1 := ptB_bd hx2
      have b2 := ptB_bd hx3
      have b3 := ptB_bd hx4
      have hr1 : wr.rangeAt g (o + k * 6) [.int .i64 a, .int .i64 b, .int .i64 c, .int .i64 d, .int .i64 p, .int .i64 s] := hr
      have hL2 : Hid (L ++ [mv1 x y ⟨a, b, c, d, p, s⟩] = mvK x y Z (k + 1)) := Lib.hid (by rw [mvK_succ, hxk.out, ← hL.out])
      have cA := Lib.hid (fun W => l05Moved_any a b x y b1.1 b1.2 hx hy W)
      have cB := Lib.hid (fun W => l05Moved_any c d x y b2.1 b2.2 hx hy W)
      have cC := Lib.hid (fun W => l05Moved_any p s x y b3.1 b3.2 hx hy W)
      go_upto_region 10 with (refine wpList_load_mid rfl _ _ rfl g (o + k * 6) rfl _ _ hr1 Try.underlying29 rfl rfl ?_)
      have hOwn := Lib.hid (hown.alloc (.cells #[.int .i64 a, .int .i64 b, .int .i64 c, .int .i64 d, .int .i64 p, .int .i64 s] 29))
      obtain ⟨q1, hB0, hsz⟩ := one_box wr #[.int .i64 a, .int .i64 b, .int .i64 c, .int .i64 d, .int .i64 p, .int .i64 s] 29
      generalize hBx : wr.heap.size = B at q1 hsz ⊢
      have hB0' := below2 hb hB0
      generalize (wr.alloc (.cells #[.int .i64 a, .int .i64 b, .int .i64 c, .int .i64 d, .int .i64 p, .int .i64 s] 29)) = W0 at q1 hB0' hsz hOwn ⊢
      have hS : ((W0.cell? ⟨B, 0, none⟩ = some (.int .i64 a) ∧ W0.cell? ⟨B, 1, none⟩ = some (.int .i64 b) ∧ W0.cell? ⟨B, 2, none⟩ = some (.int .i64 c) ∧ W0.cell? ⟨B, 3, none⟩ = some (.int .i64 d) ∧ W0.cell? ⟨B, 4, none⟩ = some (.int .i64 p) ∧ W0.cell? ⟨B, 5, none⟩ = some (.int .i64 s)) ∧ Below w.heap.size w W0 ∧ B < W0.heap.size) := ⟨⟨q1 0 _ rfl, q1 1 _ rfl, q1 2 _ rfl, q1 3 _ rfl, q1 4 _ rfl, q1 5 _ rfl⟩, hB0', hsz⟩
      have keep : ∀ W1 W2, ((W1.cell? ⟨B, 0, none⟩ = some (.int .i64 a) ∧ W1.cell? ⟨B, 1, none⟩ = some (.int .i64 b) ∧ W1.cell? ⟨B, 2, none⟩ = some (.int .i64 c) ∧ W1.cell? ⟨B, 3, none⟩ = some (.int .i64 d) ∧ W1.cell? ⟨B, 4, none⟩ = some (.int .i64 p) ∧ W1.cell? ⟨B, 5, none⟩ = some (.int .i64 s)) ∧ Below w.heap.size w W1 ∧ B < W1.heap.size) → Below W1.heap.size W1 W2 → ((W2.cell? ⟨B, 0, none⟩ = some (.int .i64 a) ∧ W2.cell? ⟨B, 1, none⟩ = some (.int .i64 b) ∧ W2.cell? ⟨B, 2, none⟩ = some (.int .i64 c) ∧ W2.cell? ⟨B, 3, none⟩ = some (.int .i64 d) ∧ W2.cell? ⟨B, 4, none⟩ = some (.int .i64 p) ∧ W2.cell? ⟨B, 5, none⟩ = some (.int .i64 s)) ∧ Below w.heap.size w W2 ∧ B < W2.heap.size) := fun W1 W2 h1 h2 =>
        ⟨ArcAt.below (x := ⟨a, b, c, d, p, s⟩) (o := 0) h1.1 h1.2.2 h2, below2 h1.2.1 h2, Nat.lt_of_lt_of_le h1.2.2 h2.size⟩
      have hSz : w.heap.size ≤ W0.heap.size := hB0'.size
      have keepH := Lib.hid keep
      have keep2 : ∀ W1 W2, ((W1.cell? ⟨B, 0, none⟩ = some (.int .i64 a) ∧ W1.cell? ⟨B, 1, none⟩ = some (.int .i64 b) ∧ W1.cell? ⟨B, 2, none⟩ = some (.int .i64 c) ∧ W1.cell? ⟨B, 3, none⟩ = some (.int .i64 d) ∧ W1.cell? ⟨B, 4, none⟩ = some (.int .i64 p) ∧ W1.cell? ⟨B, 5, none⟩ = some (.int .i64 s)) ∧ Below w.heap.size w W1 ∧ B < W1.heap.size) → W1.grownBy W2 (Value.ownBlock u8) → ((W2.cell? ⟨B, 0, none⟩ = some (.int .i64 a) ∧ W2.cell? ⟨B, 1, none⟩ = some (.int .i64 b) ∧ W2.cell? ⟨B, 2, none⟩ = some (.int .i64 c) ∧ W2.cell? ⟨B, 3, none⟩ = some (.int .i64 d) ∧ W2.cell? ⟨B, 4, none⟩ = some (.int .i64 p) ∧ W2.cell? ⟨B, 5, none⟩ = some (.int .i64 s)) ∧ Below w.heap.size w W2 ∧ B < W2.heap.size) := fun W1 W2 h1 hg => by
        have hne : some B ≠ Value.ownBlock u8 := fun e => by have := (hown.lt _ e.symm).2; omega
        obtain ⟨⟨m0, m1, m2, m3, m4, m5⟩, m6, m7⟩ := h1
        exact ⟨⟨(grown_cell hg m7 hne).trans m0, (grown_cell hg m7 hne).trans m1, (grown_cell hg m7 hne).trans m2, (grown_cell hg m7 hne).trans m3, (grown_cell hg m7 hne).trans m4, (grown_cell hg m7 hne).trans m5⟩, m6.grown hg m6.size (fun j hj => hown.own_ge j hj), Nat.lt_of_lt_of_le m7 hg.size⟩
      have keepG := Lib.hid keep2
      clear keep keep2 q1 hB0 hB0' hsz hr hr1 hx1 hx2 hx3 hx4 P1 b1 b2 b3
      go_region_held3 (fun w' => ((w'.cell? ⟨B, 0, none⟩ = some (.int .i64 a) ∧ w'.cell? ⟨B, 1, none⟩ = some (.int .i64 b) ∧ w'.cell? ⟨B, 2, none⟩ = some (.int .i64 c) ∧ w'.cell? ⟨B, 3, none⟩ = some (.int .i64 d) ∧ w'.cell? ⟨B, 4, none⟩ = some (.int .i64 p) ∧ w'.cell? ⟨B, 5, none⟩ = some (.int .i64 s)) ∧ Below w.heap.size w w' ∧ B < w'.heap.size))
        (first | exact ⟨hS.1, belowN hS.2.1 1, hS.2.2⟩ | exact keepH.out _ _ (by assumption) (by assumption) | assumption | exact keepH.out _ _ (by assumption) ((Below.refl _ _).alloc (Nat.le_refl _) _) | exact keepG.out _ _ (by assumption) hgrow9)
        (first | (go_at_call 65; (with_reducible refine (cA.out _).mono ?_); rintro e w' ⟨rfl, hbel⟩; (first | replace hOwn := Lib.hid (own_kept hOwn.out hbel) | replace hOwn := Lib.hid (own_kept (own_drew hOwn.out) hbel)); replace hSz := Nat.le_trans hSz hbel.size) | (go_at_call 65; (with_reducible refine (cB.out _).mono ?_); rintro e w' ⟨rfl, hbel⟩; (first | replace hOwn := Lib.hid (own_kept hOwn.out hbel) | replace hOwn := Lib.hid (own_kept (own_drew hOwn.out) hbel)); replace hSz := Nat.le_trans hSz hbel.size) | (go_at_call 65; (with_reducible refine (cC.out _).mono ?_); rintro e w' ⟨rfl, hbel⟩; (first | replace hOwn := Lib.hid (own_kept hOwn.out hbel) | replace hOwn := Lib.hid (own_kept (own_drew hOwn.out) hbel)); replace hSz := Nat.le_trans hSz hbel.size) | ((refine step_append_lies _ (by rfl) _ _ _ (by rfl) w.heap.size 29 i0 (.agg #[.int .i64 (0), .int .i64 (0), .int .i64 (0), .int .i64 (0), .int .i64 (0), .int .i64 (0)]) 6 48 Try.underlying35 hi hz0 hz1 hz2 rfl (by decide) _ L.length (flatA L) (by rfl) (hOwn.out.alloc _) _ 1 1 [.int .i64 (a + x), .int .i64 (b + y), .int .i64 (c + x), .int .i64 (d + y), .int .i64 (p + x), .int .i64 (s + y)] (by rfl) (by rfl) (World.news_of_block (heap_alloc_new _ _)) (by simp [Value.oneCell']) (by omega) (by unfold maxLen; omega) (by omega) (by simp; omega) _ rfl ?_; intro g9 cap9 w9 hown9 hgrow9 hat9 hlt9)))
      rename_i hHeld'
      clear hS keepH keepG hOwn
      have hLl : (L ++ [mv1 x y ⟨a, b, c, d, p, s⟩]).length = k + 1 := by rw [List.length_append, hLk]; rfl
      have hown10 : w9.ownsRow w.heap.size 29 6 (.slice (some ⟨g9, 0, none⟩) (k + 1) cap9) (L ++ [mv1 x y ⟨a, b, c, d, p, s⟩]).length (flatA (L ++ [mv1 x y ⟨a, b, c, d, p, s⟩])) := by
        rw [flatA_app, hLl]
        rw [hLk] at hown9
        exact hown9
      have hb9 := Lib.hid hHeld'.2.1
      clear hgrow9 hown9 hown hHeld'
      go_wp2
      go_roundw
      case rel => exact ⟨k + 1, L ++ [mv1 x y ⟨a, b, c, d, p, s⟩], by omega, by go_num, hL2, hLl, hown10, hb9⟩
      case measure => simp [intOf]; omega
    · obtain rfl : k = Z.length := by omega
      have hA := ownA_row hown
      have cQ := Lib.hid (l05Ok_any _ L wr (by omega) hA.1)
      have hA' := Lib.hid hA
      clear hA
      cases hmb : outB L
      · have hc1 := Lib.hid (mv_bad (Z := Z) (x := x) (y := y) (c := 5) (by unfold mvC mvB; rw [hout.out, hptH.out, ← hL.out, hmb]; rfl) (by decide))
        rw [hmb] at cQ
        go_wp2_with (go_at_call 52; (with_reducible refine cQ.out.mono ?_); rintro e w8 ⟨rfl, hbel8⟩)
        go_ret2
        exact rowA_nil hc1.out.1 hc1.out.2 (below2 hb hbel8)
      · have hc1 := Lib.hid (mv_good (Z := Z) (x := x) (y := y) (by unfold mvC mvB; rw [hout.out, hptH.out, ← hL.out, hmb]; rfl))
        rw [hmb] at cQ
        go_wp2_with (go_at_call 52; (with_reducible refine cQ.out.mono ?_); rintro e w8 ⟨rfl, hbel8⟩)
        go_ret2
        exact rowA_mk (hc1.out.1.trans hL.out.symm) hc1.out.2 (Nat.le_refl _) (hA'.out.below hbel8) (below2 hb hbel8)
end Go.Proofs.Ytdgkpghecfpgoaa
