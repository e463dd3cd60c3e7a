/-
  Plates: the stiffness of rows on both sides, the weakest row.
-/
import Derived.Test.YtndnliaahdmbmaaPlt
import Derived.Test.YtndnliaahdmbmaaMul
import Derived.Test.YtndnliaahdmbmaaUnits
namespace Go.Proofs.Ytndnliaahdmbmaa
open Go.ChangeShapes Go.WideShapes Go.ChangeAt Go.RowKit Go.Deep
set_option linter.unusedVariables false
set_option linter.unusedSimpArgs false
/-- the stiffness of the first k numbers of a row -/
def stfK (Z : List Int) : Nat → Int
  | 0 => 0
  | k + 1 => stfK Z k + Z.getD k 0 * Z.getD k 0 * Z.getD k 0
def stfV (Z : List Int) : Int := stfK Z Z.length
/-- a row of a valid plate -/
structure RowF (Z : List Int) : Prop where
  len : Z.length ≤ 10
  bd : ∀ k (h : k < Z.length), 1 ≤ Z[k] ∧ Z[k] ≤ 200
theorem okP_row {G : List (List Int)} (h : okP G = true) {i : Nat} (hi : i < G.length) : RowF G[i] := by
  have hr := okG_rows (okP_okG h)
  have hl := (hr.2.2.2.2 _ (List.getElem_mem hi)).1
  refine ⟨by omega, fun k hk => ?_⟩
  have := okP_bd h i k hi (by omega)
  rwa [hG_get hi hk] at this
theorem cube_bd {e : Int} (h : 1 ≤ e ∧ e ≤ 200) : (0 ≤ e * e ∧ e * e ≤ 40000) ∧ (0 ≤ e * e * e ∧ e * e * e ≤ 8000000) := by
  have h1 := mulP_bd (a := e) (b := e) (A := 200) (B := 200) (by omega) (by omega)
  have h2 := mulP_bd (a := e * e) (b := e) (A := 200 * 200) (B := 200) h1 (by omega)
  exact ⟨⟨h1.1, by omega⟩, ⟨h2.1, by omega⟩⟩
theorem stfK_bd {Z : List Int} (h : RowF Z) : ∀ k, k ≤ Z.length → 0 ≤ stfK Z k ∧ stfK Z k ≤ 8000000 * k
  | 0, _ => by unfold stfK; omega
  | k + 1, hk => by
    have h1 := stfK_bd h k (by omega)
    have h2 := cube_bd (h.bd k (by omega))
    unfold stfK
    rw [getD_of _ (by omega)]
    omega
theorem stfV_bd {Z : List Int} (h : RowF Z) : 0 ≤ stfV Z ∧ stfV Z ≤ 80000000 := by
  have := stfK_bd h Z.length (Nat.le_refl _)
  have := h.len
  unfold stfV; omega
set_option maxHeartbeats 1600000 in
theorem rowStiff_any (v : Value) (Z : List Int) (w : World) (hF : RowF Z) (hv : IntsAt w v Z) : Calls Try.prog 58 #[v] w fun e w' => e = .returned (.int .i64 (stfV Z)) ∧ w = w' := by
  have hF' := Lib.hid hF
  have hl := hF.len
  obtain ⟨a, cap, rfl, hcap, hin, hread⟩ := hv
  have hread' := Lib.hid hread
  clear hread hin hF
  go_enter Try.func58, Try.ntmps58
  go_wp2
  go_loopw [3, 8] (fun s i wr => ∃ (k : Nat) (n : Int), k ≤ Z.length ∧ i = .int .i64 k ∧ s = .int .i64 n ∧ 0 ≤ n ∧ n ≤ 8000000 * k ∧ Hid (n = stfK Z k) ∧ wr = w) (fun _ i _ => Z.length - (intOf i).toNat)
  case atStart => exact ⟨0, 0, by omega, rfl, rfl, by omega, by omega, Lib.hid rfl, rfl⟩
  case round =>
    obtain ⟨k, n, hk, rfl, rfl, hn0, hn1, hn, rfl⟩ := hrel
    by_cases hlt : k < Z.length
    · rcases hread'.out with h | ⟨g, o, rfl, hg, hcl⟩
      · subst h; simp at hlt
      have hc := hF'.out.bd k hlt
      have hcu := cube_bd hc
      have hnew : Hid (n + Z[k] * Z[k] * Z[k] = stfK Z (k + 1)) := Lib.hid (by unfold stfK; rw [getD_of _ hlt, hn.out])
      have c1 := hcl k hlt
      obtain ⟨e, he⟩ : ∃ e, e = Z[k] := ⟨_, rfl⟩
      rw [← he] at hc hcu hnew c1
      have e1 : IntKind.i64.wrap (e * e) = e * e := IntWalk.i64_in _ (by omega)
      have e2 : IntKind.i64.wrap (e * e * e) = e * e * e := IntWalk.i64_in _ (by omega)
      have e3 : IntKind.i64.wrap (n + e * e * e) = n + e * e * e := IntWalk.i64_in _ (by omega)
      have hkI : (k : Int) < (Z.length : Int) := by omega
      obtain ⟨n2, hn2⟩ : ∃ n2, n2 = n + e * e * e := ⟨_, rfl⟩
      have hb2 : 0 ≤ n2 ∧ n2 ≤ 8000000 * (k + 1 : Nat) := by rw [hn2]; omega
      rw [← hn2] at hnew e3
      have hb3 := Lib.hid hb2
      have hn2' := Lib.hid hn2
      clear he hcl hb2
      go_wp2
      go_roundw
      case rel => exact ⟨k + 1, n2, by omega, by go_num, by first | rfl | (rw [hn2'.out]; done) | (congr 1; done), hb3.out.1, hb3.out.2, hnew, by first | rfl | trivial⟩
      case measure => simp [intOf]; omega
    · have hkl : k = Z.length := by omega
      have hr : Hid (n = stfV Z) := Lib.hid (by unfold stfV; rw [hn.out, hkl])
      clear hkl
      go_wp2
      go_ret
      exact ⟨ret_int hr.out, rfl⟩
set_option maxHeartbeats 1600000 in
theorem l08Stiff_any (v : Value) (Z : List Int) (w : World) (hF : RowF Z) (hv : IntsAt w v Z) : Calls Try.prog 57 #[v] w fun e w' => e = .returned (.int .i64 (stfV Z)) ∧ DrewOf w w' := by
  have hF' := Lib.hid hF
  have hl := hF.len
  obtain ⟨a, cap, rfl, hcap, hin, hread⟩ := hv
  have hread' := Lib.hid hread
  clear hread hin hF
  go_enter Try.func57, Try.ntmps57
  go_wp2
  go_loopw [3, 4] (fun s i wr => ∃ (k : Nat) (n : Int), k ≤ Z.length ∧ i = .int .i64 k ∧ s = .int .i64 n ∧ 0 ≤ n ∧ n ≤ 8000000 * k ∧ Hid (n = stfK Z k) ∧ DrewOf w wr) (fun _ i _ => Z.length - (intOf i).toNat)
  case atStart => exact ⟨0, 0, by omega, rfl, rfl, by omega, by omega, Lib.hid rfl, DrewOf.refl _⟩
  case round =>
    obtain ⟨k, n, hk, rfl, rfl, hn0, hn1, hn, hd⟩ := hrel
    by_cases hlt : k < Z.length
    · rcases hread'.out with h | ⟨g, o, rfl, hg, hcl⟩
      · subst h; simp at hlt
      have hc := hF'.out.bd k hlt
      have hcu := cube_bd hc
      have hnew : Hid (n + Z[k] * Z[k] * Z[k] = stfK Z (k + 1)) := Lib.hid (by unfold stfK; rw [getD_of _ hlt, hn.out])
      have c1 := (hd.cell _).trans (hcl k hlt)
      obtain ⟨e, he⟩ : ∃ e, e = Z[k] := ⟨_, rfl⟩
      rw [← he] at hc hcu hnew c1
      have e1 : IntKind.i64.wrap (e * e) = e * e := IntWalk.i64_in _ (by omega)
      have e2 : IntKind.i64.wrap (e * e * e) = e * e * e := IntWalk.i64_in _ (by omega)
      have e3 : IntKind.i64.wrap (n + e * e * e) = n + e * e * e := IntWalk.i64_in _ (by omega)
      have hkI : (k : Int) < (Z.length : Int) := by omega
      obtain ⟨n2, hn2⟩ : ∃ n2, n2 = n + e * e * e := ⟨_, rfl⟩
      have hb2 : 0 ≤ n2 ∧ n2 ≤ 8000000 * (k + 1 : Nat) := by rw [hn2]; omega
      rw [← hn2] at hnew e3
      have hb3 := Lib.hid hb2
      have hn2' := Lib.hid hn2
      clear he hcl hb2
      go_wp2
      go_quiet (fail)
      go_wp2
      go_roundw
      case rel => exact ⟨k + 1, n2, by omega, by go_num, by first | rfl | (rw [hn2'.out]; done) | (congr 1; done), hb3.out.1, hb3.out.2, hnew, hd.more _⟩
      case measure => simp [intOf]; omega
    · have hkl : k = Z.length := by omega
      have hr : Hid (n = stfV Z) := Lib.hid (by unfold stfV; rw [hn.out, hkl])
      clear hkl
      go_wp2
      go_ret
      exact ⟨ret_int hr.out, hd⟩
theorem l08Stiff_q {u : Value} {Z : List Int} {w : World} (hF : RowF Z) (hv : IntsAt w u Z) (n : Nat) : Calls Try.prog 57 #[u] (w.drewN n) fun e w' => e = .returned (.int .i64 (stfV Z)) ∧ ∃ m, w' = w.drewN m :=
  (l08Stiff_any u Z (w.drewN n) hF (hv.drewN n)).mono (by rintro e w' ⟨rfl, m, rfl⟩; exact ⟨rfl, n + m, by rw [World.drewN_drewN]⟩)
/-- which of the first k is the first least one -/
def wkK (f : Nat → Int) : Nat → Nat
  | 0 => 0
  | k + 1 => if f k < f (wkK f k) then k else wkK f k
theorem wkK_lt (f : Nat → Int) : ∀ k, 0 < k → wkK f k < k
  | 0, h => absurd h (Nat.lt_irrefl _)
  | 1, _ => by unfold wkK; split <;> (try unfold wkK) <;> omega
  | k + 2, _ => by
    have := wkK_lt f (k + 1) (by omega)
    rw [show wkK f (k + 2) = if f (k + 1) < f (wkK f (k + 1)) then k + 1 else wkK f (k + 1) from rfl]
    split <;> omega
theorem wkK_one (f : Nat → Int) : wkK f 1 = 0 := by
  rw [show wkK f 1 = if f 0 < f (wkK f 0) then 0 else wkK f 0 from rfl]; split <;> rfl
def stG (G : List (List Int)) (k : Nat) : Int := stfV (G.getD k [])
def wkV (G : List (List Int)) : Nat := if okP G then wkK (stG G) G.length else 0
def wkS (G : List (List Int)) : Int := if okP G then stG G (wkV G) else 0
theorem stG_get {G : List (List Int)} {k : Nat} (h : k < G.length) : stG G k = stfV G[k] := by unfold stG; rw [getD_of _ h]
theorem IntsAt.drewOf {w w' : World} {u : Value} {Z : List Int} (h : IntsAt w u Z) (hd : DrewOf w w') : IntsAt w' u Z := by obtain ⟨q, rfl⟩ := hd; exact h.drewN q
set_option maxHeartbeats 3200000 in
theorem implWeakestRow_any (v : Value) (G : List (List Int)) (w : World) (hn : G.length + totL G ≤ 1048576) (hv : GridAt w v G) : Calls Try.prog 29 #[v] w fun e w' => e = .returned (.tuple #[.int .i64 (wkV G : Int), .int .i64 (wkS G), .int .i64 (code (okP G) 1)]) ∧ Below w.heap.size w w' := by
  have cV := Lib.hid (implValidPlate_any v G w hn hv)
  have hx1 : Hid (wkV G = if okP G then wkK (stG G) G.length else 0) := Lib.hid rfl
  have hx2 : Hid (wkS G = if okP G then stG G (wkV G) else 0) := Lib.hid rfl
  cases hok : okP G
  · rw [hok] at cV hx1 hx2
    obtain ⟨a, cap, rfl, _⟩ := hv
    clear hok hn
    go_enter Try.func29, Try.ntmps29
    go_wp2_with (go_at_call 18; refine cV.out.mono ?_; rintro e w2 ⟨rfl, hd⟩)
    go_ret3
    exact ⟨by rw [hx1.out, hx2.out]; rfl, hd.below⟩
  have hrow := Lib.hid (fun i (hi : i < G.length) => okP_row hok hi)
  have hR := (okG_rows (okP_okG hok)).1
  have hR2 := (okG_rows (okP_okG hok)).2.1
  rw [hok] at cV hx1 hx2
  have hfin : Hid (wkV G = wkK (stG G) G.length ∧ wkS G = stG G (wkK (stG G) G.length)) := Lib.hid (by have e1 : wkV G = wkK (stG G) G.length := hx1.out; exact ⟨e1, by rw [← e1]; exact hx2.out⟩)
  obtain ⟨a, cap, rfl, hcap, hread⟩ := hv
  rcases hread with h | ⟨g, o, rfl, hg, hc⟩
  · subst h; simp at hR
  have hc' := Lib.hid hc
  obtain ⟨u0, hu0, hz0⟩ := hc 0 (by omega)
  have hF0 := hrow.out 0 (by omega)
  have hz0' := Lib.hid hz0
  have hF0' := Lib.hid hF0
  have hs0 : Hid (stfV G[0] = stG G 0) := Lib.hid (stG_get (by omega)).symm
  have hbs0 := stfV_bd hF0
  obtain ⟨s0, hs0e⟩ : ∃ s0, s0 = stfV G[0] := ⟨_, rfl⟩
  have cS0 := Lib.hid (fun W (hd : DrewOf w W) => rowStiff_any u0 G[0] W hF0'.out (hz0'.out.drewOf hd))
  rw [← hs0e] at hs0 hbs0 cS0
  rw [Nat.add_zero] at hu0
  have h0I : (0 : Int) < (G.length : Int) := by omega
  clear hok hn hc hz0 hF0 hz0' hF0' hs0e hx1 hx2
  go_enter Try.func29, Try.ntmps29
  go_wp2_with fail
  refine cV.out.mono ?_
  rintro e w1 ⟨rfl, hd1⟩
  have c0 : w1.cell? ⟨g, o, none⟩ = some u0 := (hd1.cell _).trans hu0
  have hd1' := Lib.hid hd1
  clear hd1 hu0
  go_wp2_with (go_at_call 58; (with_reducible refine (cS0.out _ hd1'.out).mono ?_); rintro e w2 ⟨rfl, rfl⟩)
  go_loopw [5, 6, 19] (fun b s i wr => ∃ (k : Nat) (n : Int), k ≤ G.length ∧ i = .int .i64 k ∧ b = .int .i64 (wkK (stG G) k : Int) ∧ s = .int .i64 n ∧ Hid (n = stG G (wkK (stG G) k)) ∧ wr = w1) (fun _ _ i _ => G.length - (intOf i).toNat)
  case atStart => exact ⟨0, s0, by omega, rfl, rfl, rfl, Lib.hid hs0.out, rfl⟩
  case round =>
    obtain ⟨k, n, hk, rfl, rfl, rfl, hn, rfl⟩ := hrel
    by_cases hlt : k < G.length
    · obtain ⟨u, hu, hz⟩ := hc'.out k hlt
      have hF := hrow.out k hlt
      have hbs := stfV_bd hF
      have hst : Hid (stfV G[k] = stG G k) := Lib.hid (stG_get hlt).symm
      have cS := Lib.hid (fun W (hd : DrewOf w W) => rowStiff_any u G[k] W hF (hz.drewOf hd))
      obtain ⟨s, hse⟩ : ∃ s, s = stfV G[k] := ⟨_, rfl⟩
      rw [← hse] at hst hbs cS
      have c1 : wr.cell? ⟨g, o + k, none⟩ = some u := (hd1'.out.cell _).trans hu
      have hkI : (k : Int) < (G.length : Int) := by omega
      have hwk : Hid (wkK (stG G) (k + 1) = if s < n then k else wkK (stG G) k) := Lib.hid (by rw [show wkK (stG G) (k + 1) = if stG G k < stG G (wkK (stG G) k) then k else wkK (stG G) k from rfl, ← hst.out, ← hn.out])
      clear hz hF hse hu
      by_cases hsn : s < n
      · have hnew : Hid (wkK (stG G) (k + 1) = k) := Lib.hid (by rw [hwk.out, if_pos hsn])
        go_wp2_with (go_at_call 58; (with_reducible refine (cS.out _ hd1'.out).mono ?_); rintro e w2 ⟨rfl, rfl⟩)
        go_roundw
        case rel => exact ⟨k + 1, s, by omega, by go_num, by rw [hnew.out], rfl, Lib.hid (by rw [hnew.out]; exact hst.out), by first | rfl | trivial⟩
        case measure => simp [intOf]; omega
      · have hnew : Hid (wkK (stG G) (k + 1) = wkK (stG G) k) := Lib.hid (by rw [hwk.out, if_neg hsn])
        go_wp2_with (go_at_call 58; (with_reducible refine (cS.out _ hd1'.out).mono ?_); rintro e w2 ⟨rfl, rfl⟩)
        go_roundw
        case rel => exact ⟨k + 1, n, by omega, by go_num, by rw [hnew.out], rfl, Lib.hid (by rw [hnew.out]; exact hn.out), by first | rfl | trivial⟩
        case measure => simp [intOf]; omega
    · have hkl : k = G.length := by omega
      have hr : Hid (wkV G = wkK (stG G) k ∧ n = wkS G) := Lib.hid (by rw [hn.out, hkl]; exact ⟨hfin.out.1, hfin.out.2.symm⟩)
      clear hkl
      go_wp2
      go_ret3
      exact ⟨by rw [hr.out.1, ← hr.out.2]; rfl, hd1'.out.below⟩
set_option maxHeartbeats 3200000 in
theorem specWeakestRow_any (v : Value) (G : List (List Int)) (w : World) (hn : G.length + totL G ≤ 1048576) (hv : GridAt w v G) : Calls Try.prog 28 #[v] w fun e w' => e = .returned (.tuple #[.int .i64 (wkV G : Int), .int .i64 (wkS G), .int .i64 (code (okP G) 1)]) ∧ Below w.heap.size w w' := by
  have cV := Lib.hid (l08Ok_any v G w hn hv)
  have hx1 : Hid (wkV G = if okP G then wkK (stG G) G.length else 0) := Lib.hid rfl
  have hx2 : Hid (wkS G = if okP G then stG G (wkV G) else 0) := Lib.hid rfl
  cases hok : okP G
  · rw [hok] at cV hx1 hx2
    obtain ⟨a, cap, rfl, _⟩ := hv
    clear hok hn
    go_enter Try.func28, Try.ntmps28
    go_wp2_with (go_at_call 48; refine cV.out.mono ?_; rintro e w2 ⟨rfl, hd⟩)
    go_ret3
    exact ⟨by rw [hx1.out, hx2.out]; rfl, hd.below⟩
  have hrow := Lib.hid (fun i (hi : i < G.length) => okP_row hok hi)
  have hR := (okG_rows (okP_okG hok)).1
  have hR2 := (okG_rows (okP_okG hok)).2.1
  rw [hok] at cV hx1 hx2
  have hfin : Hid (wkV G = wkK (stG G) G.length ∧ wkS G = stG G (wkK (stG G) G.length)) := Lib.hid (by have e1 : wkV G = wkK (stG G) G.length := hx1.out; exact ⟨e1, by rw [← e1]; exact hx2.out⟩)
  obtain ⟨a, cap, rfl, hcap, hread⟩ := hv
  rcases hread with h | ⟨g, o, rfl, hg, hc⟩
  · subst h; simp at hR
  have hc' := Lib.hid hc
  have hone : Hid (wkK (stG G) 1 = 0) := Lib.hid (wkK_one _)
  have hwlt : Hid (∀ k, 0 < k → wkK (stG G) k < k) := Lib.hid (fun k hk => wkK_lt _ k hk)
  clear hok hn hc hx1 hx2
  go_enter Try.func28, Try.ntmps28
  go_wp2_with fail
  refine cV.out.mono ?_
  rintro e w1 ⟨rfl, hd1⟩
  go_wp2
  go_loopw [5, 6] (fun b i wr => ∃ (k q : Nat), 1 ≤ k ∧ k ≤ G.length ∧ i = .int .i64 k ∧ b = .int .i64 q ∧ Hid (q = wkK (stG G) k) ∧ DrewOf w wr) (fun _ i _ => G.length - (intOf i).toNat)
  case atStart => exact ⟨1, 0, by omega, by omega, rfl, rfl, Lib.hid hone.out.symm, hd1⟩
  case round =>
    obtain ⟨k, q, hk1, hk, rfl, rfl, hq, hd⟩ := hrel
    have hql : q < G.length := by have := hwlt.out k (by omega); rw [hq.out]; omega
    obtain ⟨u', hu', hz'⟩ := hc'.out q hql
    have hF2 := hrow.out q hql
    have hst' : Hid (stfV G[q] = stG G q) := Lib.hid (stG_get hql).symm
    have hqI : (q : Int) < (G.length : Int) := by omega
    have c2 : wr.cell? ⟨g, o + q, none⟩ = some u' := (hd.cell _).trans hu'
    have cB0 := fun n => l08Stiff_q hF2 (hz'.drewOf hd) n
    obtain ⟨s', hse'⟩ : ∃ s, s = stfV G[q] := ⟨_, rfl⟩
    rw [← hse'] at hst' cB0
    have cB := Lib.hid cB0
    by_cases hlt : k < G.length
    · obtain ⟨u, hu, hz⟩ := hc'.out k hlt
      have hF := hrow.out k hlt
      have hst : Hid (stfV G[k] = stG G k) := Lib.hid (stG_get hlt).symm
      have cA0 := fun n => l08Stiff_q hF (hz.drewOf hd) n
      obtain ⟨s, hse⟩ : ∃ s, s = stfV G[k] := ⟨_, rfl⟩
      rw [← hse] at hst cA0
      have cA := Lib.hid cA0
      have c1 : wr.cell? ⟨g, o + k, none⟩ = some u := (hd.cell _).trans hu
      have hkI : (k : Int) < (G.length : Int) := by omega
      have hwk : Hid (wkK (stG G) (k + 1) = if s < s' then k else q) := Lib.hid (by rw [show wkK (stG G) (k + 1) = if stG G k < stG G (wkK (stG G) k) then k else wkK (stG G) k from rfl, ← hq.out, ← hst.out, ← hst'.out])
      clear hz hz' hF hF2 hse hse' hu hu' cA0 cB0
      by_cases hsn : s < s'
      · have hnew : Hid (k = wkK (stG G) (k + 1)) := Lib.hid (by rw [hwk.out, if_pos hsn])
        go_wp2
        go_quiet ((go_at_call 57; first | (with_reducible exact cA.out _) | (with_reducible exact cB.out _)))
        go_wp2
        go_roundw
        case rel => exact ⟨k + 1, k, by omega, by omega, by go_num, rfl, hnew, hd.more _⟩
        case measure => simp [intOf]; omega
      · have hnew : Hid (q = wkK (stG G) (k + 1)) := Lib.hid (by rw [hwk.out, if_neg hsn])
        go_wp2
        go_quiet ((go_at_call 57; first | (with_reducible exact cA.out _) | (with_reducible exact cB.out _)))
        go_wp2
        go_roundw
        case rel => exact ⟨k + 1, q, by omega, by omega, by go_num, rfl, hnew, hd.more _⟩
        case measure => simp [intOf]; omega
    · have hkl : k = G.length := by omega
      have hr : Hid (wkV G = q ∧ s' = wkS G) := Lib.hid (by have := hq.out; rw [hkl] at this; rw [hfin.out.1, hfin.out.2, ← this]; exact ⟨rfl, hst'.out⟩)
      have cC : Hid (∀ W, W = wr → Calls Try.prog 57 #[u'] W fun e w' => e = .returned (.int .i64 s') ∧ ∃ m, w' = wr.drewN m) := Lib.hid (fun W hW => by rw [hW]; exact cB.out 0)
      clear hkl hz' hF2 hse' hu' cB0
      go_wp2_with (go_at_call 57; refine (cC.out _ rfl).mono ?_; rintro e w2 ⟨rfl, m, rfl⟩)
      go_ret3
      exact ⟨by rw [hr.out.1, ← hr.out.2]; rfl, (hd.more m).below⟩
end Go.Proofs.Ytndnliaahdmbmaa
