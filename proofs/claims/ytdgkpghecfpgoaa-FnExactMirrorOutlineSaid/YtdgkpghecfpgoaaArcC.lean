/-
  Outlines: corners, by the model and by the program.
-/
import Derived.Test.YtdgkpghecfpgoaaArcV
import Derived.Test.YtdgkpghecfpgoaaRowC
namespace Go.Proofs.Ytdgkpghecfpgoaa
open Go.ChangeShapes Go.WideShapes Go.ChangeAt Go.RowKit Go.Deep
set_option linter.unusedVariables false
set_option linter.unusedSimpArgs false
set_option maxRecDepth 1000000
theorem smo_bd {a b p s a' b' : Int} (h1 : ptB a b = true) (h2 : ptB p s = true) (h3 : ptB a' b' = true) : (-200000 ≤ a - p ∧ a - p ≤ 200000) ∧ (-200000 ≤ b - s ∧ b - s ≤ 200000) ∧ (-200000 ≤ a' - p ∧ a' - p ≤ 200000) ∧ (-200000 ≤ b' - s ∧ b' - s ≤ 200000) := by
  have p1 := ptB_bd h1
  have p2 := ptB_bd h2
  have p3 := ptB_bd h3
  omega
set_option maxHeartbeats 1600000 in
theorem l05Smooth_any (a : Int) (b : Int) (c : Int) (d : Int) (p : Int) (s : Int) (a' : Int) (b' : Int) (c' : Int) (d' : Int) (p' : Int) (s' : Int) (h1 : ptB a b = true) (h2 : ptB p s = true) (h3 : ptB a' b' = true) (w : World) (g o g' o' : Nat) (hg : g < w.heap.size) (hg' : g' < w.heap.size) (hat : ArcAt w g o ⟨a, b, c, d, p, s⟩) (hat' : ArcAt w g' o' ⟨a', b', c', d', p', s'⟩) : Calls Try.prog 58 #[.pointer (some ⟨g, o, none⟩), .pointer (some ⟨g', o', none⟩)] w fun e w' => e = .returned (.bool (smoB ⟨a, b, c, d, p, s⟩ ⟨a', b', c', d', p', s'⟩)) ∧ Below w.heap.size w w' := by
  obtain ⟨k1, k2, k3, k4⟩ := smo_bd h1 h2 h3
  have e1 := prod_bd k1 k4
  have e2 := prod_bd k2 k3
  have hx : Hid (smoB ⟨a, b, c, d, p, s⟩ ⟨a', b', c', d', p', s'⟩ = (((a - p) * (b' - s)) == ((b - s) * (a' - p)))) := Lib.hid (by
    unfold smoB
    simp only
    rw [Bool.eq_iff_iff]
    simp only [beq_iff_eq]
    omega)
  obtain ⟨c0, c1, c2, c3, c4, c5⟩ := hat
  obtain ⟨d0, d1, d2, d3, d4, d5⟩ := hat'
  simp only at c0 c1 c2 c3 c4 c5 d0 d1 d2 d3 d4 d5
  go_enter Try.func58, Try.ntmps58
  go_wp2
  obtain ⟨q1, hB0, hsz⟩ := one_box w #[.int .i64 p, .int .i64 s] 27
  generalize (w.alloc (.cells #[.int .i64 p, .int .i64 s] 27)) = W0 at q1 hB0 hsz ⊢
  have r0 := q1 0 _ rfl
  have r1 := q1 1 _ rfl
  replace c0 := (hB0.cell (p := ⟨g, _, none⟩) hg).trans c0
  replace c1 := (hB0.cell (p := ⟨g, _, none⟩) hg).trans c1
  replace d0 := (hB0.cell (p := ⟨g', _, none⟩) hg').trans d0
  replace d1 := (hB0.cell (p := ⟨g', _, none⟩) hg').trans d1
  clear q1 c2 c3 c4 c5 d2 d3 d4 d5
  go_quiet (fail)
  go_wp2
  go_quiet (fail)
  go_wp2
  go_quiet (fail)
  go_wp2
  go_quiet (fail)
  go_wp2
  go_ret
  exact ⟨ret_bool (by rw [hx.out]), by first | exact hB0 | exact belowN hB0 _⟩
/-- the corners among the first k joints -/
def corS (Z : List Arc) (i : Nat) : Bool := smoB (Z.getD i arc0) (Z.getD ((i + 1) % Z.length) arc0)
def corL (Z : List Arc) : Nat → List Int
  | 0 => []
  | k + 1 => if corS Z k = true then corL Z k else corL Z k ++ [(k : Int)]
theorem corL_yes {Z : List Arc} {k : Nat} (h : corS Z k = false) : corL Z (k + 1) = corL Z k ++ [(k : Int)] := by
  show (if _ then _ else _) = _
  rw [if_neg]; rw [h]; decide
theorem corL_no {Z : List Arc} {k : Nat} (h : corS Z k = true) : corL Z (k + 1) = corL Z k := by
  show (if _ then _ else _) = _
  rw [if_pos h]
theorem corL_len (Z : List Arc) : ∀ k, (corL Z k).length ≤ k
  | 0 => Nat.le_refl _
  | k + 1 => by
    have := corL_len Z k
    unfold corL; split
    · omega
    · simp; omega
theorem corL_in (Z : List Arc) : ∀ k, ∀ n ∈ corL Z k, 0 ≤ n ∧ n < (k : Int)
  | 0 => fun n h => by cases h
  | k + 1 => fun n h => by
    unfold corL at h
    split at h
    · have := corL_in Z k n h; omega
    · rw [List.mem_append] at h
      rcases h with h | h
      · have := corL_in Z k n h; omega
      · simp at h; omega
theorem out_len {Z : List Arc} (h : outB Z = true) : 2 ≤ Z.length ∧ Z.length ≤ 16 := by
  unfold outB at h
  rw [Bool.and_eq_true, decide_eq_true_eq] at h
  exact h.2
theorem out_one {Z : List Arc} (h : outB Z = true) {k : Nat} (hk : k < Z.length) : arcB Z[k] = true := by
  unfold outB at h
  rw [Bool.and_eq_true] at h
  have := (allK_iff _ _).1 h.1 k hk
  unfold outS at this
  rw [Bool.and_eq_true, getD_of _ hk] at this
  exact this.1
def corV (Z : List Arc) : List Int := if outB Z = true then corL Z Z.length else []
def okC (Z : List Arc) : Int := if outB Z = true then 0 else 1
theorem corV_in (Z : List Arc) : (∀ n ∈ corV Z, inI n) ∧ (corV Z).length ≤ 16 := by
  unfold corV
  by_cases h : outB Z = true
  · rw [if_pos h]
    refine ⟨fun n hn => ?_, Nat.le_trans (corL_len _ _) (out_len h).2⟩
    have := corL_in Z _ n hn
    have := out_len h
    unfold inI; omega
  · rw [if_neg h]; exact ⟨fun n hn => (by cases hn), by simp⟩
set_option maxHeartbeats 3200000 in
theorem l05Corners_any (v : Value) (Z : List Arc) (w : World) (hout0 : outB Z = true) (hv : ArcsAt w v Z) : Calls Try.prog 60 #[v] w (RowN (corL Z Z.length) w) := by
  obtain ⟨i0, hi, hz0, hz1, hz2⟩ := info_parts infoI
  have hlen := out_len hout0
  have hout := Lib.hid hout0
  obtain ⟨p, cap, rfl, hcap, _, hread⟩ := hv
  have hread' := Lib.hid hread
  clear hread hout0
  go_enter Try.func60, Try.ntmps60
  go_wp2
  have hown0 := rowI_start w
  have hbb0 : Hid (Below w.heap.size w (w.alloc (.cells #[] 2))) := Lib.hid ((Below.refl _ _).alloc (Nat.le_refl _) _)
  go_loopw [3, 5] (fun u i wr => ∃ (k : Nat) (L : List Int), k ≤ Z.length ∧ i = .int .i64 k ∧ Hid (L = corL Z k) ∧ L.length ≤ k ∧ wr.ownsRow w.heap.size 2 1 u L.length (L.map encI) ∧ Hid (Below w.heap.size w wr)) (fun _ i _ => Z.length - (intOf i).toNat)
  case atStart => exact ⟨0, [], by omega, rfl, Lib.hid rfl, Nat.le_refl _, hown0, hbb0⟩
  case round =>
    obtain ⟨k, L, hk, rfl, hL, hLk, hown, hbel0⟩ := hrel
    have hb := hbel0.out
    by_cases hlt : k < Z.length
    · rcases hread'.out with h | ⟨g, o, rfl, hg, hc⟩
      · subst h; simp at hlt
      obtain ⟨m, hm⟩ : ∃ m, m = (k + 1) % Z.length := ⟨_, rfl⟩
      have hml : m < Z.length := by rw [hm]; exact Nat.mod_lt _ (by omega)
      obtain ⟨x, hx⟩ : ∃ x, x = Z[k] := ⟨_, rfl⟩
      obtain ⟨y, hy⟩ : ∃ y, y = Z[m] := ⟨_, rfl⟩
      have hr := range_below (hc k hlt) hg hb
      have hr2 := range_below (hc m hml) hg hb
      have hx1 := out_one hout.out hlt
      have hy1 := out_one hout.out hml
      rw [← hx] at hr hx1
      rw [← hy] at hr2 hy1
      have hgr : g < wr.heap.size := Nat.lt_of_lt_of_le hg hb.size
      have hst : Hid (corS Z k = smoB x y) := Lib.hid (by unfold corS; rw [← hm, getD_of _ hlt, getD_of _ hml, ← hx, ← hy])
      have P1 := arcAt_of hr
      have P2 := arcAt_of hr2
      have hkI : (k : Int) < (Z.length : Int) := by omega
      have hmI : (m : Int) < (Z.length : Int) := by omega
      have hmod : ((k : Int) + 1).tmod (Z.length : Int) = (m : Int) := by rw [hm, Int.tmod_eq_emod_of_nonneg (by omega)]; rfl
      have hwk : IntKind.i64.wrap ((k : Int) + 1) = (k : Int) + 1 := IntWalk.i64_in _ (by omega)
      have hwm : IntKind.i64.wrap (m : Int) = (m : Int) := IntWalk.i64_in _ (by omega)
      have hZ0 : Z ≠ [] := fun h => by rw [h] at hlt; exact absurd hlt (Nat.not_lt_zero _)
      have hn0 : ((Z.length : Int) == 0) = false := beq_false_of_ne (by omega)
      clear hm hx hy hc hr hr2
      obtain ⟨a, b, c, d, p, s⟩ := x
      obtain ⟨a', b', c', d', p', s'⟩ := y
      obtain ⟨hx2, hx3, hx4⟩ := arc_bd hx1
      obtain ⟨hy2, hy3, hy4⟩ := arc_bd hy1
      simp only at hx2 hx3 hx4 hy2 hy3 hy4
      have cS0 : ∀ W, (((W.cell? ⟨g, o + k * 6, none⟩ = some (.int .i64 a) ∧ W.cell? ⟨g, o + k * 6 + 1, none⟩ = some (.int .i64 b) ∧ W.cell? ⟨g, o + k * 6 + 2, none⟩ = some (.int .i64 c) ∧ W.cell? ⟨g, o + k * 6 + 3, none⟩ = some (.int .i64 d) ∧ W.cell? ⟨g, o + k * 6 + 4, none⟩ = some (.int .i64 p) ∧ W.cell? ⟨g, o + k * 6 + 5, none⟩ = some (.int .i64 s)) ∧ (W.cell? ⟨g, o + m * 6, none⟩ = some (.int .i64 a') ∧ W.cell? ⟨g, o + m * 6 + 1, none⟩ = some (.int .i64 b') ∧ W.cell? ⟨g, o + m * 6 + 2, none⟩ = some (.int .i64 c') ∧ W.cell? ⟨g, o + m * 6 + 3, none⟩ = some (.int .i64 d') ∧ W.cell? ⟨g, o + m * 6 + 4, none⟩ = some (.int .i64 p') ∧ W.cell? ⟨g, o + m * 6 + 5, none⟩ = some (.int .i64 s'))) ∧ Below wr.heap.size wr W) → Calls Try.prog 58 #[.pointer (some ⟨g, o + k * 6, none⟩), .pointer (some ⟨g, o + m * 6, none⟩)] W fun e w' => e = .returned (.bool (smoB ⟨a, b, c, d, p, s⟩ ⟨a', b', c', d', p', s'⟩)) ∧ Below W.heap.size W w' := fun W h => l05Smooth_any a b c d p s a' b' c' d' p' s' hx2 hx4 hy2 W g (o + k * 6) g (o + m * 6) (Nat.lt_of_lt_of_le hgr h.2.size) (Nat.lt_of_lt_of_le hgr h.2.size) h.1.1 h.1.2
      have hS : (((wr.cell? ⟨g, o + k * 6, none⟩ = some (.int .i64 a) ∧ wr.cell? ⟨g, o + k * 6 + 1, none⟩ = some (.int .i64 b) ∧ wr.cell? ⟨g, o + k * 6 + 2, none⟩ = some (.int .i64 c) ∧ wr.cell? ⟨g, o + k * 6 + 3, none⟩ = some (.int .i64 d) ∧ wr.cell? ⟨g, o + k * 6 + 4, none⟩ = some (.int .i64 p) ∧ wr.cell? ⟨g, o + k * 6 + 5, none⟩ = some (.int .i64 s)) ∧ (wr.cell? ⟨g, o + m * 6, none⟩ = some (.int .i64 a') ∧ wr.cell? ⟨g, o + m * 6 + 1, none⟩ = some (.int .i64 b') ∧ wr.cell? ⟨g, o + m * 6 + 2, none⟩ = some (.int .i64 c') ∧ wr.cell? ⟨g, o + m * 6 + 3, none⟩ = some (.int .i64 d') ∧ wr.cell? ⟨g, o + m * 6 + 4, none⟩ = some (.int .i64 p') ∧ wr.cell? ⟨g, o + m * 6 + 5, none⟩ = some (.int .i64 s'))) ∧ Below wr.heap.size wr wr) := ⟨⟨P1, P2⟩, Below.refl _ _⟩
      have keep : ∀ W1 W2, (((W1.cell? ⟨g, o + k * 6, none⟩ = some (.int .i64 a) ∧ W1.cell? ⟨g, o + k * 6 + 1, none⟩ = some (.int .i64 b) ∧ W1.cell? ⟨g, o + k * 6 + 2, none⟩ = some (.int .i64 c) ∧ W1.cell? ⟨g, o + k * 6 + 3, none⟩ = some (.int .i64 d) ∧ W1.cell? ⟨g, o + k * 6 + 4, none⟩ = some (.int .i64 p) ∧ W1.cell? ⟨g, o + k * 6 + 5, none⟩ = some (.int .i64 s)) ∧ (W1.cell? ⟨g, o + m * 6, none⟩ = some (.int .i64 a') ∧ W1.cell? ⟨g, o + m * 6 + 1, none⟩ = some (.int .i64 b') ∧ W1.cell? ⟨g, o + m * 6 + 2, none⟩ = some (.int .i64 c') ∧ W1.cell? ⟨g, o + m * 6 + 3, none⟩ = some (.int .i64 d') ∧ W1.cell? ⟨g, o + m * 6 + 4, none⟩ = some (.int .i64 p') ∧ W1.cell? ⟨g, o + m * 6 + 5, none⟩ = some (.int .i64 s'))) ∧ Below wr.heap.size wr W1) → Below W1.heap.size W1 W2 → (((W2.cell? ⟨g, o + k * 6, none⟩ = some (.int .i64 a) ∧ W2.cell? ⟨g, o + k * 6 + 1, none⟩ = some (.int .i64 b) ∧ W2.cell? ⟨g, o + k * 6 + 2, none⟩ = some (.int .i64 c) ∧ W2.cell? ⟨g, o + k * 6 + 3, none⟩ = some (.int .i64 d) ∧ W2.cell? ⟨g, o + k * 6 + 4, none⟩ = some (.int .i64 p) ∧ W2.cell? ⟨g, o + k * 6 + 5, none⟩ = some (.int .i64 s)) ∧ (W2.cell? ⟨g, o + m * 6, none⟩ = some (.int .i64 a') ∧ W2.cell? ⟨g, o + m * 6 + 1, none⟩ = some (.int .i64 b') ∧ W2.cell? ⟨g, o + m * 6 + 2, none⟩ = some (.int .i64 c') ∧ W2.cell? ⟨g, o + m * 6 + 3, none⟩ = some (.int .i64 d') ∧ W2.cell? ⟨g, o + m * 6 + 4, none⟩ = some (.int .i64 p') ∧ W2.cell? ⟨g, o + m * 6 + 5, none⟩ = some (.int .i64 s'))) ∧ Below wr.heap.size wr W2) := fun W1 W2 h1 h2 => by
        obtain ⟨⟨p0, p1⟩, hb⟩ := h1
        have hgw := Nat.lt_of_lt_of_le hgr hb.size
        exact ⟨⟨ArcAt.below (x := ⟨a, b, c, d, p, s⟩) (o := o + k * 6) p0 hgw h2, ArcAt.below (x := ⟨a', b', c', d', p', s'⟩) (o := o + m * 6) p1 hgw h2⟩, hb.trans (h2.mono hb.size)⟩
      have keepH := Lib.hid keep
      clear keep
      clear P1 P2 hx1 hy1 hx2 hx3 hx4 hy2 hy3 hy4
      cases hb1 : smoB ⟨a, b, c, d, p, s⟩ ⟨a', b', c', d', p', s'⟩
      · rw [hb1] at cS0 hst
        have cS := Lib.hid cS0
        clear cS0
        go_wp2
        go_region_held3 (fun w' => (((w'.cell? ⟨g, o + k * 6, none⟩ = some (.int .i64 a) ∧ w'.cell? ⟨g, o + k * 6 + 1, none⟩ = some (.int .i64 b) ∧ w'.cell? ⟨g, o + k * 6 + 2, none⟩ = some (.int .i64 c) ∧ w'.cell? ⟨g, o + k * 6 + 3, none⟩ = some (.int .i64 d) ∧ w'.cell? ⟨g, o + k * 6 + 4, none⟩ = some (.int .i64 p) ∧ w'.cell? ⟨g, o + k * 6 + 5, none⟩ = some (.int .i64 s)) ∧ (w'.cell? ⟨g, o + m * 6, none⟩ = some (.int .i64 a') ∧ w'.cell? ⟨g, o + m * 6 + 1, none⟩ = some (.int .i64 b') ∧ w'.cell? ⟨g, o + m * 6 + 2, none⟩ = some (.int .i64 c') ∧ w'.cell? ⟨g, o + m * 6 + 3, none⟩ = some (.int .i64 d') ∧ w'.cell? ⟨g, o + m * 6 + 4, none⟩ = some (.int .i64 p') ∧ w'.cell? ⟨g, o + m * 6 + 5, none⟩ = some (.int .i64 s'))) ∧ Below wr.heap.size wr w'))
          (first | exact ⟨hS.1, belowN hS.2 1⟩ | exact keepH.out _ _ (by assumption) (by assumption) | assumption)
          (first | (go_at_call 58; (with_reducible refine (cS.out _ (by assumption)).mono ?_); rintro e w' ⟨rfl, hbel⟩))
        rename_i hHeld'
        have hbel2 : Hid (Below w.heap.size w w') := Lib.hid (below2 hb hHeld'.2)
        have hown2 := own_kept hown hHeld'.2
        clear hS keepH hHeld'
        have hL2 : Hid (L ++ [(k : Int)] = corL Z (k + 1)) := Lib.hid (by rw [corL_yes hst.out, ← hL.out])
        go_wp2_with (at_builtin; refine wpList_append_own _ rfl _ _ 43 rfl w.heap.size 2 i0 (.int .i64 0) 1 8 Try.underlying43 hi hz0 hz1 hz2 rfl (by decide) _ _ _ rfl (hown2.alloc _) ⟨w'.heap.size, 0, none⟩ 1 1 [.int .i64 k] rfl rfl ?c1A ?c2A ?c3A ?c4A ?c5A ?_)
        case c1A =>
          intro j u hj
          match j, hj with
          | 0, hj => simp at hj; subst hj; simp [Addr.add]
        case c2A => intro u hu; simp at hu; subst hu; rfl
        case c3A => unfold maxLen; omega
        case c4A => omega
        case c5A => have := hbel2.out.size; simp; omega
        intro v' w3 hown' hgrow' _
        have hb3 : Below w.heap.size w w3 := (hbel2.out.alloc hbel2.out.size (.cells #[.int .i64 k] 2)).grown hgrow' (by have := hbel2.out.size; simp at this ⊢; omega) (fun j hj => hown2.own_ge j hj)
        have hLl : (L ++ [((k) : Int)]).length = L.length + 1 := by simp
        have hown3 : w3.ownsRow w.heap.size 2 1 v' (L ++ [((k) : Int)]).length ((L ++ [((k) : Int)]).map encI) := by
          rw [hLl, List.map_append, List.map_singleton]; simpa [encI] using hown'
        have hb3' := Lib.hid hb3
        clear hgrow' hown' hb3
        go_wp2
        go_roundw
        case rel => exact ⟨k + 1, L ++ [(k : Int)], by omega, by go_num, hL2, by rw [hLl]; omega, hown3, hb3'⟩
        case measure => simp [intOf]; omega
      · rw [hb1] at cS0 hst
        have cS := Lib.hid cS0
        clear cS0
        go_wp2
        go_region_held3 (fun w' => (((w'.cell? ⟨g, o + k * 6, none⟩ = some (.int .i64 a) ∧ w'.cell? ⟨g, o + k * 6 + 1, none⟩ = some (.int .i64 b) ∧ w'.cell? ⟨g, o + k * 6 + 2, none⟩ = some (.int .i64 c) ∧ w'.cell? ⟨g, o + k * 6 + 3, none⟩ = some (.int .i64 d) ∧ w'.cell? ⟨g, o + k * 6 + 4, none⟩ = some (.int .i64 p) ∧ w'.cell? ⟨g, o + k * 6 + 5, none⟩ = some (.int .i64 s)) ∧ (w'.cell? ⟨g, o + m * 6, none⟩ = some (.int .i64 a') ∧ w'.cell? ⟨g, o + m * 6 + 1, none⟩ = some (.int .i64 b') ∧ w'.cell? ⟨g, o + m * 6 + 2, none⟩ = some (.int .i64 c') ∧ w'.cell? ⟨g, o + m * 6 + 3, none⟩ = some (.int .i64 d') ∧ w'.cell? ⟨g, o + m * 6 + 4, none⟩ = some (.int .i64 p') ∧ w'.cell? ⟨g, o + m * 6 + 5, none⟩ = some (.int .i64 s'))) ∧ Below wr.heap.size wr w'))
          (first | exact ⟨hS.1, belowN hS.2 1⟩ | exact keepH.out _ _ (by assumption) (by assumption) | assumption)
          (first | (go_at_call 58; (with_reducible refine (cS.out _ (by assumption)).mono ?_); rintro e w' ⟨rfl, hbel⟩))
        rename_i hHeld'
        have hbel2 : Hid (Below w.heap.size w w') := Lib.hid (below2 hb hHeld'.2)
        have hown2 := own_kept hown hHeld'.2
        clear hS keepH hHeld'
        have hL2 : Hid (L = corL Z (k + 1)) := Lib.hid (by rw [corL_no hst.out, ← hL.out])
        go_wp2
        go_roundw
        case rel => exact ⟨k + 1, L, by omega, by go_num, hL2, by omega, hown2, hbel2⟩
        case measure => simp [intOf]; omega
    · obtain rfl : k = Z.length := by omega
      go_wp2
      go_ret
      exact rowN_mk hL.out.symm (Nat.le_refl _) hown hb
theorem specCornersOf_any (v : Value) (Z : List Arc) (w : World) (hn : Z.length ≤ 1048576) (hv : ArcsAt w v Z) : Calls Try.prog 27 #[v] w (RowC (corV Z) (okC Z) w) := by
  have cO := Lib.hid (l05Ok_any v Z w hn hv)
  cases h : outB Z
  · have hc1 : Hid (corV Z = [] ∧ okC Z = 1) := Lib.hid (by unfold corV okC; rw [h]; exact ⟨rfl, rfl⟩)
    rw [h] at cO
    go_enter Try.func27, Try.ntmps27
    go_wp2_with (go_at_call 52; (with_reducible refine cO.out.mono ?_); rintro e w' ⟨rfl, hbel⟩)
    go_ret2
    exact rowC_nil hc1.out.1 hc1.out.2 hbel
  · have hc1 : Hid (corV Z = corL Z Z.length ∧ okC Z = 0) := Lib.hid (by unfold corV okC; rw [h]; exact ⟨rfl, rfl⟩)
    rw [h] at cO
    have cC : ∀ W, Below w.heap.size w W → Calls Try.prog 60 #[v] W (RowN (corL Z Z.length) W) := fun W hb => l05Corners_any v Z W h (hv.below hb)
    have cC' := Lib.hid cC
    clear cC
    go_enter Try.func27, Try.ntmps27
    go_wp2_with (first
      | (go_at_call 52; (with_reducible refine cO.out.mono ?_); rintro e w' ⟨rfl, hbel⟩)
      | (go_at_call 60; (with_reducible refine (cC'.out _ hbel).mono ?_); rintro e w2 ⟨v2, rfl, o2, hbel2⟩))
    go_ret2
    exact rowC_mk hc1.out.1 hc1.out.2 hbel.size o2 (below2 hbel hbel2)
end Go.Proofs.Ytdgkpghecfpgoaa
