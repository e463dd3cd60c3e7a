/-
  Lists of strings: the force of all, and those that do not hold, on both sides.
-/
import Derived.Test.YthnmlnhimglacaaCrdA
import Derived.Test.YthnmlnhimglacaaRowC
import Derived.OwnWalk
namespace Go.Proofs.Ythnmlnhimglacaa
open Go.ChangeShapes Go.WideShapes Go.ChangeAt Go.RowKit Go.Deep
set_option linter.unusedVariables false
set_option linter.unusedSimpArgs false
set_option maxRecDepth 1000000
/-- the force of the first k strings -/
def totS (Z : List Crd) : Nat → Int
  | 0 => 0
  | k + 1 => totS Z k + tenV (Z.getD k crd0).pit (Z.getD k crd0).len (Z.getD k crd0).gau
/-- those of the first k strings that do not hold -/
def brkL (Z : List Crd) (z : Int) : Nat → List Int
  | 0 => []
  | k + 1 => if hldB (Z.getD k crd0).pit (Z.getD k crd0).len (Z.getD k crd0).gau (Z.getD k crd0).str z = true then brkL Z z k else brkL Z z k ++ [(k : Int)]
theorem brkL_len (Z : List Crd) (z : Int) : ∀ k, (brkL Z z k).length ≤ k
  | 0 => Nat.le_refl _
  | k + 1 => by
    have := brkL_len Z z k
    unfold brkL; split
    · omega
    · simp; omega
theorem brkL_in (Z : List Crd) (z : Int) : ∀ k, k ≤ 4 → ∀ x ∈ brkL Z z k, inI x
  | 0, _ => fun x hx => (by cases hx)
  | k + 1, hk => by
    intro x hx
    unfold brkL at hx
    split at hx
    · exact brkL_in Z z k (by omega) x hx
    · rcases List.mem_append.1 hx with h | h
      · exact brkL_in Z z k (by omega) x h
      · simp at h; subst h; unfold inI; omega
def brkC (Z : List Crd) (z : Int) : Int := if strsB Z = true then (if inB z 0 1000 = true then 0 else 2) else 1
def brkV (Z : List Crd) (z : Int) : List Int := if brkC Z z = 0 then brkL Z z Z.length else []
theorem brk_bad {Z : List Crd} {z c : Int} (e : brkC Z z = c) (hc : c ≠ 0) : brkV Z z = [] ∧ brkC Z z = c := by unfold brkV; rw [e, if_neg hc]; exact ⟨rfl, rfl⟩
theorem brk_good {Z : List Crd} {z : Int} (e : brkC Z z = 0) : brkV Z z = brkL Z z Z.length ∧ brkC Z z = 0 := by unfold brkV; rw [e, if_pos rfl]; exact ⟨rfl, rfl⟩
theorem brkV_in {Z : List Crd} {z : Int} : (∀ x ∈ brkV Z z, inI x) ∧ (brkV Z z).length ≤ 8 := by
  unfold brkV
  by_cases e : brkC Z z = 0
  · rw [if_pos e]
    unfold brkC at e
    cases h1 : strsB Z
    · rw [h1, if_neg (by decide)] at e; exact absurd e (by decide)
    · have h4 := strs_4 h1
      have := brkL_len Z z Z.length
      exact ⟨brkL_in Z z _ h4, by omega⟩
  · rw [if_neg e]; exact ⟨fun x hx => (by cases hx), by simp⟩
set_option maxHeartbeats 1600000 in
theorem implTotalTension_any (v : Value) (Z : List Crd) (w : World) (hn : Z.length ≤ 1048576) (hv : CrdsAt w v Z) : Calls Try.prog 29 #[v] w fun e w' => e = .returned (.tuple #[.int .i64 (pick (strsB Z) (totS Z Z.length)), .int .i64 (code (strsB Z) 1)]) ∧ Below w.heap.size w w' := by
  have cV := Lib.hid (areStrings_any v Z w hn hv)
  obtain ⟨a0, cap, rfl, hcap, hids, hread⟩ := hv
  have hread' := Lib.hid hread
  clear hread hids
  cases h : strsB Z <;> rw [h] at cV
  · go_enter Try.func29, Try.ntmps29
    go_wp2_with (go_at_call 68; (with_reducible refine cV.out.mono ?_); rintro e w1 ⟨rfl, b1⟩)
    go_ret2
    exact ⟨ret_int2 rfl rfl, b1⟩
  have h4 := strs_4 h
  have hok' := Lib.hid h
  go_enter Try.func29, Try.ntmps29
  go_wp2_with (go_at_call 68; (with_reducible refine cV.out.mono ?_); rintro e w1 ⟨rfl, b1⟩)
  go_loopw [4, 12] (fun q i wr => ∃ (k : Nat) (n : Int), k ≤ Z.length ∧ i = .int .i64 k ∧ q = .int .i64 n ∧ 0 ≤ n ∧ n ≤ 10000000 * k ∧ Hid (n = totS Z k) ∧ Hid (Below w.heap.size w wr)) (fun _ i _ => Z.length - (intOf i).toNat)
  case atStart => exact ⟨0, 0, by omega, rfl, rfl, by omega, by omega, Lib.hid rfl, Lib.hid (b1)⟩
  case round =>
    obtain ⟨k, n, hk, rfl, rfl, hn0, hn1, hn, hbel⟩ := hrel
    by_cases hlt : k < Z.length
    · rcases hread'.out with h | ⟨g, o, rfl, hg, hc⟩
      · subst h; simp at hlt
      have hltI : (k : Int) < (Z.length : Int) := by omega
      obtain ⟨x, hx⟩ : ∃ x, x = Z[k] := ⟨_, rfl⟩
      have hr0 := range_below (hc k hlt) hg hbel.out
      rw [← hx] at hr0
      have hB := strs_one hok'.out hlt
      rw [← hx] at hB
      have hnew : Hid (n + tenV x.pit x.len x.gau = totS Z (k + 1)) := Lib.hid (by show _ = totS Z k + _; rw [getD_of _ hlt, ← hx, hn.out])
      obtain ⟨a, b, c, d⟩ := x
      obtain ⟨ha, hb, hc', hd⟩ := crd_bd hB
      have hT := ten_bd ha hb hc'
      have cT := Lib.hid (fun W => tension_any a b c d ha hb hc' W)
      have hr1 : wr.rangeAt g (o + k * 4) [.int .i64 a, .int .i64 b, .int .i64 c, .int .i64 d] := hr0
      simp only at hnew
      obtain ⟨T, hTe⟩ : ∃ T, T = tenV a b c := ⟨_, rfl⟩
      rw [← hTe] at hT cT hnew
      clear hr0 hx hc hTe hB
      go_wp2_with (first
        | (refine wpList_load_mid rfl _ _ rfl g (o + k * 4) rfl _ _ hr1 Try.underlying25 rfl rfl ?_)
        | (go_at_call 56; (with_reducible refine (cT.out _).mono ?_); rintro e w2 ⟨rfl, b2⟩))
      have hb3 := below2 (hbel.out.alloc hbel.out.size _) b2
      go_roundw
      case rel => exact ⟨k + 1, n + T, by omega, by go_num, rfl, by omega, by omega, hnew, Lib.hid hb3⟩
      case measure => simp [intOf]; omega
    · have hkl : k = Z.length := by omega
      have hr : Hid (n = totS Z Z.length) := Lib.hid (by rw [hn.out, hkl])
      clear hkl
      go_wp2
      go_ret2
      exact ⟨ret_int2 hr.out rfl, hbel.out⟩
set_option maxHeartbeats 1600000 in
theorem specTotalTension_any (v : Value) (Z : List Crd) (w : World) (hn : Z.length ≤ 1048576) (hv : CrdsAt w v Z) : Calls Try.prog 27 #[v] w fun e w' => e = .returned (.tuple #[.int .i64 (pick (strsB Z) (totS Z Z.length)), .int .i64 (code (strsB Z) 1)]) ∧ Below w.heap.size w w' := by
  have cV := Lib.hid (l09List_any v Z w hn hv)
  obtain ⟨a0, cap, rfl, hcap, hids, hread⟩ := hv
  have hread' := Lib.hid hread
  clear hread hids
  cases h : strsB Z <;> rw [h] at cV
  · go_enter Try.func27, Try.ntmps27
    go_wp2_with (go_at_call 67; (with_reducible refine cV.out.mono ?_); rintro e w1 ⟨rfl, rfl⟩)
    go_ret2
    exact ⟨ret_int2 rfl rfl, Below.refl _ _⟩
  have h4 := strs_4 h
  have hok' := Lib.hid h
  go_enter Try.func27, Try.ntmps27
  go_wp2_with (go_at_call 67; (with_reducible refine cV.out.mono ?_); rintro e w1 ⟨rfl, rfl⟩)
  go_loopw [4, 5] (fun q i wr => ∃ (k : Nat) (n : Int), k ≤ Z.length ∧ i = .int .i64 k ∧ q = .int .i64 n ∧ 0 ≤ n ∧ n ≤ 10000000 * k ∧ Hid (n = totS Z k) ∧ Hid (Below w.heap.size w wr)) (fun _ i _ => Z.length - (intOf i).toNat)
  case atStart => exact ⟨0, 0, by omega, rfl, rfl, by omega, by omega, Lib.hid rfl, Lib.hid (Below.refl _ _)⟩
  case round =>
    obtain ⟨k, n, hk, rfl, rfl, hn0, hn1, hn, hbel⟩ := hrel
    by_cases hlt : k < Z.length
    · rcases hread'.out with h | ⟨g, o, rfl, hg, hc⟩
      · subst h; simp at hlt
      have hltI : (k : Int) < (Z.length : Int) := by omega
      obtain ⟨x, hx⟩ : ∃ x, x = Z[k] := ⟨_, rfl⟩
      have hr0 := range_below (hc k hlt) hg hbel.out
      rw [← hx] at hr0
      have hB := strs_one hok'.out hlt
      rw [← hx] at hB
      have hnew : Hid (n + tenV x.pit x.len x.gau = totS Z (k + 1)) := Lib.hid (by show _ = totS Z k + _; rw [getD_of _ hlt, ← hx, hn.out])
      have hat := crdAt_of hr0
      obtain ⟨a, b, c, d⟩ := x
      obtain ⟨ha, hb, hc', hd⟩ := crd_bd hB
      have hT := ten_bd ha hb hc'
      have cT := Lib.hid (l09Tension_any a b c d ha hb hc' wr g (o + k * 4) hat)
      simp only at hnew
      obtain ⟨T, hTe⟩ : ∃ T, T = tenV a b c := ⟨_, rfl⟩
      rw [← hTe] at hT cT hnew
      clear hr0 hx hc hTe hB hat
      go_wp2_with (go_at_call 55; (with_reducible refine cT.out.mono ?_); rintro e w2 ⟨rfl, m, rfl⟩)
      have hb3 := belowN hbel.out m
      go_roundw
      case rel => exact ⟨k + 1, n + T, by omega, by go_num, rfl, by omega, by omega, hnew, Lib.hid hb3⟩
      case measure => simp [intOf]; omega
    · have hkl : k = Z.length := by omega
      have hr : Hid (n = totS Z Z.length) := Lib.hid (by rw [hn.out, hkl])
      clear hkl
      go_wp2
      go_ret2
      exact ⟨ret_int2 hr.out rfl, hbel.out⟩
set_option maxHeartbeats 3200000 in
theorem implBreakingStrings_any (v : Value) (Z : List Crd) (z : Int) (w : World) (hn : Z.length ≤ 1048576) (hv : CrdsAt w v Z) : Calls Try.prog 32 #[v, .int .i64 z] w (RowC (brkV Z z) (brkC Z z) w) := by
  obtain ⟨i0, hi, hz0, hz1, hz2⟩ := info_parts infoI
  have cV := Lib.hid (areStrings_any v Z w hn hv)
  have cS := Lib.hid (fun W => isShare_any z W)
  obtain ⟨a0, cap, rfl, hcap, hids, hread⟩ := hv
  have hread' := Lib.hid hread
  clear hread hids
  cases h : strsB Z <;> rw [h] at cV
  · have hr := Lib.hid (brk_bad (show brkC Z z = 1 by unfold brkC; rw [h]; rfl) (by decide))
    go_enter Try.func32, Try.ntmps32
    go_wp2_with (go_at_call 68; (with_reducible refine cV.out.mono ?_); rintro e w1 ⟨rfl, b1⟩)
    go_ret2
    exact rowC_nil hr.out.1 hr.out.2 b1
  cases h2 : inB z 0 1000 <;> rw [h2] at cS
  · have hr := Lib.hid (brk_bad (show brkC Z z = 2 by unfold brkC; rw [h, h2]; rfl) (by decide))
    go_enter Try.func32, Try.ntmps32
    go_wp2_with (first
      | (go_at_call 68; (with_reducible refine cV.out.mono ?_); rintro e w1 ⟨rfl, b1⟩)
      | (go_at_call 59; (with_reducible refine (cS.out _).mono ?_); rintro e w2 ⟨rfl, rfl⟩))
    go_ret2
    exact rowC_nil hr.out.1 hr.out.2 b1
  have hr := Lib.hid (brk_good (show brkC Z z = 0 by unfold brkC; rw [h, h2]; rfl))
  have h4 := strs_4 h
  have hz := inB_iff.1 h2
  have hok' := Lib.hid h
  go_enter Try.func32, Try.ntmps32
  go_wp2_with (first
    | (go_at_call 68; (with_reducible refine cV.out.mono ?_); rintro e w1 ⟨rfl, b1⟩)
    | (go_at_call 59; (with_reducible refine (cS.out _).mono ?_); rintro e w2 ⟨rfl, rfl⟩))
  go_loopw [6, 19] (fun q i wr => ∃ (k : Nat) (L : List Int), k ≤ Z.length ∧ i = .int .i64 k ∧ Hid (L = brkL Z z k) ∧ L.length ≤ k ∧ wr.ownsRow w.heap.size 2 1 q L.length (L.map encI) ∧ Hid (Below w.heap.size w wr)) (fun _ i _ => Z.length - (intOf i).toNat)
  case atStart => exact ⟨0, [], by omega, rfl, Lib.hid rfl, by simp, World.ownsRow_nil _ _ _ _, Lib.hid b1⟩
  case round =>
    obtain ⟨k, L, hk, rfl, hL, hLk, hown, hbel⟩ := hrel
    by_cases hlt : k < Z.length
    · rcases hread'.out with h | ⟨g, o, rfl, hg, hc⟩
      · subst h; simp at hlt
      have hltI : (k : Int) < (Z.length : Int) := by omega
      obtain ⟨x, hx⟩ : ∃ x, x = Z[k] := ⟨_, rfl⟩
      have hr0 := range_below (hc k hlt) hg hbel.out
      rw [← hx] at hr0
      have hB := strs_one hok'.out hlt
      rw [← hx] at hB
      have hst : Hid (brkL Z z (k + 1) = if hldB x.pit x.len x.gau x.str z = true then brkL Z z k else brkL Z z k ++ [(k : Int)]) := Lib.hid (by rw [hx, ← getD_of crd0 hlt]; rfl)
      obtain ⟨a, b, c, d⟩ := x
      obtain ⟨ha, hb, hc', hd⟩ := crd_bd hB
      simp only at hst
      have hr1 : wr.rangeAt g (o + k * 4) [.int .i64 a, .int .i64 b, .int .i64 c, .int .i64 d] := hr0
      have cH := Lib.hid (fun W => holds_any a b c d z ha hb hc' ⟨by omega, hd.2⟩ hz W)
      have hbA : Hid (Below w.heap.size w (wr.alloc (.cells #[.int .i64 a, .int .i64 b, .int .i64 c, .int .i64 d] 25))) := Lib.hid (hbel.out.alloc hbel.out.size _)
      have hownA := hown.alloc (.cells #[.int .i64 a, .int .i64 b, .int .i64 c, .int .i64 d] 25)
      clear hr0 hx hc hB
      cases hh : hldB a b c d z <;> rw [hh] at cH hst
      · have hL2 : Hid (L ++ [(k : Int)] = brkL Z z (k + 1)) := Lib.hid (by rw [hst.out, if_neg (by decide), ← hL.out])
        go_wp2_with (first
          | (refine wpList_load_mid rfl _ _ rfl g (o + k * 4) rfl _ _ hr1 Try.underlying25 rfl rfl ?_)
          | (go_at_call 63; (with_reducible refine (cH.out _).mono ?_); rintro e w' ⟨rfl, b2⟩; have hbel2 : Hid (Below w.heap.size w w') := Lib.hid (below2 hbA.out b2); have hown2 := own_kept hownA b2; clear b2 hbA hownA)
          | (at_builtin; refine wpList_append_own _ rfl _ _ 39 rfl w.heap.size 2 i0 (.int .i64 0) 1 8 Try.underlying39 hi hz0 hz1 hz2 rfl (by decide) _ _ _ rfl (hown2.alloc _) ⟨w'.heap.size, 0, none⟩ 1 1 [.int .i64 k] rfl rfl ?c1A ?c2A ?c3A ?c4A ?c5A ?_))
        case c1A =>
          intro j u hj
          match j, hj with
          | 0, hj => simp at hj; subst hj; simp [Addr.add]
        case c2A => intro u hu; simp at hu; subst hu; rfl
        case c3A => unfold maxLen; omega
        case c4A => omega
        case c5A => have := hbel2.out.size; simp; omega
        intro v' w3 hown' hgrow' _
        have hb3 : Below w.heap.size w w3 := (hbel2.out.alloc hbel2.out.size (.cells #[.int .i64 k] 2)).grown hgrow' (by have := hbel2.out.size; simp at this ⊢; omega) (fun j hj => hown2.own_ge j hj)
        have hLl : (L ++ [((k) : Int)]).length = L.length + 1 := by simp
        have hown3 : w3.ownsRow w.heap.size 2 1 v' (L ++ [((k) : Int)]).length ((L ++ [((k) : Int)]).map encI) := by
          rw [hLl, List.map_append, List.map_singleton]; simpa [encI] using hown'
        have hb3' := Lib.hid hb3
        clear hgrow' hown' hb3
        go_wp2
        go_roundw
        case rel => exact ⟨k + 1, L ++ [(k : Int)], by omega, by go_num, hL2, by rw [hLl]; omega, hown3, hb3'⟩
        case measure => simp [intOf]; omega
      · have hL2 : Hid (L = brkL Z z (k + 1)) := Lib.hid (by rw [hst.out, if_pos rfl, ← hL.out])
        go_wp2_with (first
          | (refine wpList_load_mid rfl _ _ rfl g (o + k * 4) rfl _ _ hr1 Try.underlying25 rfl rfl ?_)
          | (go_at_call 63; (with_reducible refine (cH.out _).mono ?_); rintro e w' ⟨rfl, b2⟩))
        go_roundw
        case rel => exact ⟨k + 1, L, by omega, by go_num, hL2, by omega, own_kept hownA b2, Lib.hid (below2 hbA.out b2)⟩
        case measure => simp [intOf]; omega
    · obtain rfl : k = Z.length := by omega
      go_wp2
      go_ret2
      exact rowC_mk (hr.out.1.trans hL.out.symm) hr.out.2 (Nat.le_refl _) hown hbel.out
set_option maxHeartbeats 3200000 in
theorem l09Breaking_any (v : Value) (Z : List Crd) (z : Int) (w : World) (h : strsB Z = true) (hz : 0 ≤ z ∧ z ≤ 1000) (hv : CrdsAt w v Z) : Calls Try.prog 70 #[v, .int .i64 z] w (RowN (brkL Z z Z.length) w) := by
  obtain ⟨i0, hi, hz0, hz1, hz2⟩ := info_parts infoI
  obtain ⟨a0, cap, rfl, hcap, hids, hread⟩ := hv
  have hread' := Lib.hid hread
  have h4 := strs_4 h
  have hok' := Lib.hid h
  clear hread hids h
  go_enter Try.func70, Try.ntmps70
  go_wp2
  have hown0 := rowI_start w
  have hbb0 : Hid (Below w.heap.size w (w.alloc (.cells #[] 2))) := Lib.hid ((Below.refl _ _).alloc (Nat.le_refl _) _)
  go_loopw [5, 6] (fun q i wr => ∃ (k : Nat) (L : List Int), k ≤ Z.length ∧ i = .int .i64 k ∧ Hid (L = brkL Z z k) ∧ L.length ≤ k ∧ wr.ownsRow w.heap.size 2 1 q L.length (L.map encI) ∧ Hid (Below w.heap.size w wr)) (fun _ i _ => Z.length - (intOf i).toNat)
  case atStart => exact ⟨0, [], by omega, rfl, Lib.hid rfl, Nat.le_refl _, hown0, hbb0⟩
  case round =>
    obtain ⟨k, L, hk, rfl, hL, hLk, hown, hbel⟩ := hrel
    by_cases hlt : k < Z.length
    · rcases hread'.out with h | ⟨g, o, rfl, hg, hc⟩
      · subst h; simp at hlt
      have hltI : (k : Int) < (Z.length : Int) := by omega
      obtain ⟨x, hx⟩ : ∃ x, x = Z[k] := ⟨_, rfl⟩
      have hr0 := range_below (hc k hlt) hg hbel.out
      rw [← hx] at hr0
      have hB := strs_one hok'.out hlt
      rw [← hx] at hB
      have hst : Hid (brkL Z z (k + 1) = if hldB x.pit x.len x.gau x.str z = true then brkL Z z k else brkL Z z k ++ [(k : Int)]) := Lib.hid (by rw [hx, ← getD_of crd0 hlt]; rfl)
      have hat := crdAt_of hr0
      obtain ⟨a, b, c, d⟩ := x
      obtain ⟨ha, hb, hc', hd⟩ := crd_bd hB
      simp only at hst
      have cH := Lib.hid (l09Holds_any a b c d z ha hb hc' ⟨by omega, hd.2⟩ hz wr g (o + k * 4) hat)
      clear hr0 hx hc hB hat
      cases hh : hldB a b c d z <;> rw [hh] at cH hst
      · have hL2 : Hid (L ++ [(k : Int)] = brkL Z z (k + 1)) := Lib.hid (by rw [hst.out, if_neg (by decide), ← hL.out])
        go_wp2_with fail
        refine cH.out.mono ?_
        rintro e w' ⟨rfl, m, hm⟩
        have hbel2 : Hid (Below w.heap.size w w') := Lib.hid (by rw [hm]; exact belowN hbel.out m)
        have hown2 := own_kept hown (belowN (Below.refl wr.heap.size wr) m)
        rw [← hm] at hown2
        clear hm
        go_wp2_with (at_builtin; refine wpList_append_own _ rfl _ _ 39 rfl w.heap.size 2 i0 (.int .i64 0) 1 8 Try.underlying39 hi hz0 hz1 hz2 rfl (by decide) _ _ _ rfl (hown2.alloc _) ⟨w'.heap.size, 0, none⟩ 1 1 [.int .i64 k] rfl rfl ?c1A ?c2A ?c3A ?c4A ?c5A ?_)
        case c1A =>
          intro j u hj
          match j, hj with
          | 0, hj => simp at hj; subst hj; simp [Addr.add]
        case c2A => intro u hu; simp at hu; subst hu; rfl
        case c3A => unfold maxLen; omega
        case c4A => omega
        case c5A => have := hbel2.out.size; simp; omega
        intro v' w3 hown' hgrow' _
        have hb3 : Below w.heap.size w w3 := (hbel2.out.alloc hbel2.out.size (.cells #[.int .i64 k] 2)).grown hgrow' (by have := hbel2.out.size; simp at this ⊢; omega) (fun j hj => hown2.own_ge j hj)
        have hLl : (L ++ [((k) : Int)]).length = L.length + 1 := by simp
        have hown3 : w3.ownsRow w.heap.size 2 1 v' (L ++ [((k) : Int)]).length ((L ++ [((k) : Int)]).map encI) := by
          rw [hLl, List.map_append, List.map_singleton]; simpa [encI] using hown'
        have hb3' := Lib.hid hb3
        clear hgrow' hown' hb3
        go_wp2
        go_roundw
        case rel => exact ⟨k + 1, L ++ [(k : Int)], by omega, by go_num, hL2, by rw [hLl]; omega, hown3, hb3'⟩
        case measure => simp [intOf]; omega
      · have hL2 : Hid (L = brkL Z z (k + 1)) := Lib.hid (by rw [hst.out, if_pos rfl, ← hL.out])
        go_wp2_with (go_at_call 58; (with_reducible refine cH.out.mono ?_); rintro e w' ⟨rfl, m, rfl⟩)
        go_roundw
        case rel => exact ⟨k + 1, L, by omega, by go_num, hL2, by omega, own_kept hown (belowN (Below.refl _ _) m), Lib.hid (belowN hbel.out m)⟩
        case measure => simp [intOf]; omega
    · obtain rfl : k = Z.length := by omega
      go_wp2
      go_ret
      exact rowN_mk hL.out.symm (Nat.le_refl _) hown hbel.out
theorem specBreakingStrings_any (v : Value) (Z : List Crd) (z : Int) (w : World) (hn : Z.length ≤ 1048576) (hv : CrdsAt w v Z) : Calls Try.prog 31 #[v, .int .i64 z] w (RowC (brkV Z z) (brkC Z z) w) := by
  have cV := Lib.hid (l09List_any v Z w hn hv)
  have cS := Lib.hid (fun W => l09Share_any z W)
  cases h : strsB Z <;> rw [h] at cV
  · have hr := Lib.hid (brk_bad (show brkC Z z = 1 by unfold brkC; rw [h]; rfl) (by decide))
    go_enter Try.func31, Try.ntmps31
    go_wp2_with (go_at_call 67; (with_reducible refine cV.out.mono ?_); rintro e w1 ⟨rfl, rfl⟩)
    go_ret2
    exact rowC_nil hr.out.1 hr.out.2 (Below.refl _ _)
  cases h2 : inB z 0 1000 <;> rw [h2] at cS
  · have hr := Lib.hid (brk_bad (show brkC Z z = 2 by unfold brkC; rw [h, h2]; rfl) (by decide))
    go_enter Try.func31, Try.ntmps31
    go_wp2_with (first
      | (go_at_call 67; (with_reducible refine cV.out.mono ?_); rintro e w1 ⟨rfl, rfl⟩)
      | (go_at_call 57; (with_reducible refine (cS.out _).mono ?_); rintro e w2 ⟨rfl, rfl⟩))
    go_ret2
    exact rowC_nil hr.out.1 hr.out.2 (Below.refl _ _)
  have hr := Lib.hid (brk_good (show brkC Z z = 0 by unfold brkC; rw [h, h2]; rfl))
  have cB := Lib.hid (l09Breaking_any v Z z w h (inB_iff.1 h2) hv)
  go_enter Try.func31, Try.ntmps31
  go_wp2_with (first
    | (go_at_call 67; (with_reducible refine cV.out.mono ?_); rintro e w1 ⟨rfl, rfl⟩)
    | (go_at_call 57; (with_reducible refine (cS.out _).mono ?_); rintro e w2 ⟨rfl, rfl⟩)
    | (go_at_call 70; (with_reducible refine cB.out.mono ?_); rintro e w3 ⟨v3, rfl, o3, b3⟩))
  go_ret2
  exact rowC_mk hr.out.1 hr.out.2 (Nat.le_refl _) o3 b3
end Go.Proofs.Ythnmlnhimglacaa
