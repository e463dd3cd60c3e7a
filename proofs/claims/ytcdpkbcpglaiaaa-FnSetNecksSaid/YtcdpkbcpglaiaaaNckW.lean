/-
  Necks: those that are set well, on both sides.
-/
import Derived.Test.YtcdpkbcpglaiaaaNckB
import Derived.BigQuiet
namespace Go.Proofs.Ytcdpkbcpglaiaaa
open Go.ChangeShapes Go.WideShapes Go.ChangeAt Go.RowKit Go.Deep
set_option linter.unusedVariables false
set_option linter.unusedSimpArgs false
set_option maxRecDepth 1000000
def setB (Z : List Nck) (h f : Int) (k : Nat) : Bool := decide (absG (prjV (Z.getD k nck0).bod (Z.getD k nck0).ovr (Z.getD k nck0).ang) h ≤ f)
/-- those of the first k necks that are set well -/
def setL (Z : List Nck) (h f : Int) : Nat → List Int
  | 0 => []
  | k + 1 => if setB Z h f k = true then setL Z h f k ++ [(k : Int)] else setL Z h f k
theorem setL_len (Z : List Nck) (h f : Int) : ∀ k, (setL Z h f k).length ≤ k
  | 0 => Nat.le_refl _
  | k + 1 => by
    have := setL_len Z h f k
    unfold setL; split
    · simp; omega
    · omega
theorem setL_in (Z : List Nck) (h f : Int) : ∀ k, k ≤ 64 → ∀ x ∈ setL Z h f k, inI x
  | 0, _ => fun x hx => (by cases hx)
  | k + 1, hk => by
    intro x hx
    unfold setL at hx
    split at hx
    · rcases List.mem_append.1 hx with h | h
      · exact setL_in Z _ _ k (by omega) x h
      · simp at h; subst h; unfold inI; omega
    · exact setL_in Z h f k (by omega) x hx
def setOk (h f : Int) : Bool := inB h 0 2000 && inB f 0 1000
def setC (Z : List Nck) (h f : Int) : Int := nkC Z (setOk h f)
def setV (Z : List Nck) (h f : Int) : List Int := if setC Z h f = 0 then setL Z h f Z.length else []
theorem set_bad {Z : List Nck} {h f c : Int} (e : setC Z h f = c) (hc : c ≠ 0) : setV Z h f = [] ∧ setC Z h f = c := by unfold setV; rw [e, if_neg hc]; exact ⟨rfl, rfl⟩
theorem set_good {Z : List Nck} {h f : Int} (e : setC Z h f = 0) : setV Z h f = setL Z h f Z.length ∧ setC Z h f = 0 := by unfold setV; rw [e, if_pos rfl]; exact ⟨rfl, rfl⟩
theorem prj_bd3 {b c d : Int} (hb : 100 ≤ b ∧ b ≤ 10000) (hc : 0 ≤ c ∧ c ≤ 500) (hd : 0 ≤ d ∧ d ≤ 300) : 0 ≤ prjV b c d ∧ prjV b c d ≤ 3500 := by
  have p := mulP_bd (a := b) (b := d) (A := 10000) (B := 300) (by omega) hd
  have q := rnd1000_bd (p := b * d) (M := 3000) p.1 (by omega)
  unfold prjV
  omega
theorem set_badk {Z : List Nck} {h f c : Int} {b : Bool} (ho : setOk h f = b) (e : nkC Z b = c) (hc : c ≠ 0) : setV Z h f = [] ∧ setC Z h f = c := set_bad (by unfold setC; rw [ho]; exact e) hc
theorem setC_ok {Z : List Nck} {h f : Int} (e : setC Z h f = 0) : ncksB Z = true ∧ Z.length ≤ 64 ∧ setOk h f = true := by
  unfold setC nkC at e
  cases hb : ncksB Z
  · rw [hb] at e; exact absurd e (by simp)
  · cases ho : setOk h f
    · rw [hb, ho] at e; exact absurd e (by simp)
    · rw [hb, ho, if_pos rfl, if_pos rfl] at e
      by_cases h64 : Z.length ≤ 64
      · exact ⟨rfl, h64, rfl⟩
      · rw [if_neg h64] at e; exact absurd e (by decide)
theorem setV_in {Z : List Nck} {h f : Int} : (∀ x ∈ setV Z h f, inI x) ∧ (setV Z h f).length ≤ 64 := by
  unfold setV
  by_cases e : setC Z h f = 0
  · rw [if_pos e]
    obtain ⟨_, h64, _⟩ := setC_ok e
    have := setL_len Z h f Z.length
    exact ⟨setL_in Z h f _ h64, by omega⟩
  · rw [if_neg e]; exact ⟨fun x hx => (by cases hx), by simp⟩
theorem nkC_no (Z : List Nck) : nkC Z false = 1 ∨ nkC Z false = 2 := by
  unfold nkC
  cases ncksB Z
  · exact Or.inl rfl
  · exact Or.inr rfl
/-- what the model makes of the list's code -/
theorem nkC_mix (Z : List Nck) : (nkC Z true = 0 → nkC Z false = 2) ∧ (nkC Z true = 1 → nkC Z false = 1) ∧ (nkC Z true = 2 → nkC Z false = 2) := by
  unfold nkC
  cases ncksB Z
  · simp
  · by_cases h64 : Z.length ≤ 64 <;> simp [h64]
set_option maxHeartbeats 6400000 in
theorem implSetNecks_any (v : Value) (Z : List Nck) (z f : Int) (w : World) (hn : Z.length ≤ 1048576) (hv : NcksAt w v Z) : Calls Try.prog 9 #[v, .int .i64 z, .int .i64 f] w (RowC (setV Z z f) (setC Z z f) w) := by
  obtain ⟨i0, hi, hz0, hz1, hz2⟩ := info_parts infoI
  obtain ⟨a0, cap, rfl, hcap, hids, hread⟩ := hv
  have hv : Hid (NcksAt w (.slice a0 Z.length cap) Z) := Lib.hid ⟨a0, cap, rfl, hcap, hids, hread⟩
  have hread' := Lib.hid hread
  have cC0 : Hid (∀ ok, Calls Try.prog 19 #[.bool ok, .slice a0 Z.length cap] w fun e w' => e = .returned (.int .i64 (nkC Z ok)) ∧ Below w.heap.size w w') := Lib.hid (fun ok => codeOfNecks_any ok _ Z w hn hv.out)
  clear hread hids
  have cC1 := cC0.out (setOk z f)
  clear cC0
  cases h2 : inB z 0 2000
  · have ho : setOk z f = false := by unfold setOk; rw [h2]; rfl
    rw [ho] at cC1
    rcases nkC_no Z with e | e
    all_goals
      rw [e] at cC1
      have cC := Lib.hid cC1
      have hr := Lib.hid (set_badk ho e (by decide))
      clear ho cC1 e
      go_enter Try.func9, Try.ntmps9
      go_wp2_with (first | (go_at_call 23; refine (isNeckHeight_any _ _).mono ?_; rw [h2]; rintro e w' ⟨rfl, rfl⟩) | (go_at_call 19; (with_reducible refine cC.out.mono ?_); rintro e w1 ⟨rfl, b1⟩))
      go_ret2
      exact rowC_nil hr.out.1 hr.out.2 b1
  cases h3 : inB f 0 1000
  · have ho : setOk z f = false := by unfold setOk; rw [h2, h3]; rfl
    rw [ho] at cC1
    rcases nkC_no Z with e | e
    all_goals
      rw [e] at cC1
      have cC := Lib.hid cC1
      have hr := Lib.hid (set_badk ho e (by decide))
      clear ho cC1 e
      go_enter Try.func9, Try.ntmps9
      go_wp2_with (first | (go_at_call 23; refine (isNeckHeight_any _ _).mono ?_; rw [h2]; rintro e w' ⟨rfl, rfl⟩) | (go_at_call 24; refine (within64_any _ _ _ _).mono ?_; rw [h3]; rintro e w' ⟨rfl, rfl⟩) | (go_at_call 19; (with_reducible refine cC.out.mono ?_); rintro e w1 ⟨rfl, b1⟩))
      go_ret2
      exact rowC_nil hr.out.1 hr.out.2 b1
  have ho : setOk z f = true := by unfold setOk; rw [h2, h3]; rfl
  rw [ho] at cC1
  rcases nkC_cases Z with e0 | e0 | e0
  rotate_left
  · rw [e0] at cC1
    have cC := Lib.hid cC1
    have hr := Lib.hid (set_badk ho e0 (by decide))
    clear ho cC1 e0
    go_enter Try.func9, Try.ntmps9
    go_wp2_with (first | (go_at_call 23; refine (isNeckHeight_any _ _).mono ?_; rw [h2]; rintro e w' ⟨rfl, rfl⟩) | (go_at_call 24; refine (within64_any _ _ _ _).mono ?_; rw [h3]; rintro e w' ⟨rfl, rfl⟩) | (go_at_call 19; (with_reducible refine cC.out.mono ?_); rintro e w1 ⟨rfl, b1⟩))
    go_ret2
    exact rowC_nil hr.out.1 hr.out.2 b1
  · rw [e0] at cC1
    have cC := Lib.hid cC1
    have hr := Lib.hid (set_badk ho e0 (by decide))
    clear ho cC1 e0
    go_enter Try.func9, Try.ntmps9
    go_wp2_with (first | (go_at_call 23; refine (isNeckHeight_any _ _).mono ?_; rw [h2]; rintro e w' ⟨rfl, rfl⟩) | (go_at_call 24; refine (within64_any _ _ _ _).mono ?_; rw [h3]; rintro e w' ⟨rfl, rfl⟩) | (go_at_call 19; (with_reducible refine cC.out.mono ?_); rintro e w1 ⟨rfl, b1⟩))
    go_ret2
    exact rowC_nil hr.out.1 hr.out.2 b1
  have e : setC Z z f = 0 := by unfold setC; rw [ho]; exact e0
  rw [e0] at cC1
  have cC := Lib.hid cC1
  clear cC1 e0 ho
  obtain ⟨hok, h64, hso⟩ := setC_ok e
  have hz := inB_iff.1 h2
  have hf := inB_iff.1 h3
  have hok' := Lib.hid hok
  have hr := Lib.hid (set_good e)
  clear e hso hok
  go_enter Try.func9, Try.ntmps9
  go_wp2_with (first | (go_at_call 23; refine (isNeckHeight_any _ _).mono ?_; rw [h2]; rintro e w' ⟨rfl, rfl⟩) | (go_at_call 24; refine (within64_any _ _ _ _).mono ?_; rw [h3]; rintro e w' ⟨rfl, rfl⟩) | (go_at_call 19; (with_reducible refine cC.out.mono ?_); rintro e w1 ⟨rfl, b1⟩))
  go_loopw [9, 25] (fun q i wr => ∃ (k : Nat) (L : List Int), k ≤ Z.length ∧ i = .int .i64 k ∧ Hid (L = setL Z z f k) ∧ L.length ≤ k ∧ wr.ownsRow w.heap.size 2 1 q L.length (L.map encI) ∧ Hid (Below w.heap.size w wr)) (fun _ i _ => Z.length - (intOf i).toNat)
  case atStart => exact ⟨0, [], by omega, rfl, Lib.hid rfl, by simp, World.ownsRow_nil _ _ _ _, Lib.hid b1⟩
  case round =>
    obtain ⟨k, L, hk, rfl, hL, hLk, hown, hbel⟩ := hrel
    by_cases hlt : k < Z.length
    · rcases hread'.out with h | ⟨g, o, rfl, hg, hc⟩
      · subst h; simp at hlt
      have hltI : (k : Int) < (Z.length : Int) := by omega
      obtain ⟨x, hx'⟩ : ∃ x, x = Z[k] := ⟨_, rfl⟩
      have hr0 := range_below (hc k hlt) hg hbel.out
      rw [← hx'] at hr0
      have hB := ncks_one hok'.out hlt
      rw [← hx'] at hB
      have hst : Hid (setL Z z f (k + 1) = if decide (absG (prjV x.bod x.ovr x.ang) z ≤ f) = true then setL Z z f k ++ [(k : Int)] else setL Z z f k) := Lib.hid (by rw [hx', ← getD_of nck0 hlt]; rfl)
      obtain ⟨a, b, c, d⟩ := x
      obtain ⟨ha, hb, hc', hd⟩ := nck_bd hB
      simp only at hst
      have hp := prj_bd3 hb hc' hd
      have hA := absG_bnd (p := prjV b c d) (q := z) (M := 4000000) (by omega) (by omega) (by omega) (by omega)
      have hr1 : wr.rangeAt g (o + k * 4) [.int .i64 a, .int .i64 b, .int .i64 c, .int .i64 d] := hr0
      have cP0 := fun W => projection_any a b c d hb hc' ⟨hd.1, by omega⟩ W
      have cD0 := fun W => distG (prjV b c d) z (by omega) (by omega) (by omega) (by omega) W
      obtain ⟨D, hD⟩ : ∃ D, D = absG (prjV b c d) z := ⟨_, rfl⟩
      rw [← hD] at cD0 hA hst
      obtain ⟨Q, hQ⟩ : ∃ Q, Q = prjV b c d := ⟨_, rfl⟩
      rw [← hQ] at cP0 cD0 hp
      have cP := Lib.hid cP0
      have cD := Lib.hid cD0
      have hbA : Hid (Below w.heap.size w (wr.alloc (.cells #[.int .i64 a, .int .i64 b, .int .i64 c, .int .i64 d] 26))) := Lib.hid (hbel.out.alloc hbel.out.size _)
      have hownA := hown.alloc (.cells #[.int .i64 a, .int .i64 b, .int .i64 c, .int .i64 d] 26)
      clear hr0 hx' hc hB hD hQ cP0 cD0
      by_cases hle : D ≤ f
      · have hL2 : Hid (L ++ [(k : Int)] = setL Z z f (k + 1)) := Lib.hid (by rw [hst.out, if_pos (decide_eq_true hle), ← hL.out])
        go_wp2_with (first
          | (refine wpList_load_mid rfl _ _ rfl g (o + k * 4) rfl _ _ hr1 Try.underlying26 rfl rfl ?_)
          | (go_at_call 26; (with_reducible refine (cP.out _).mono ?_); rintro e w' ⟨rfl, b2⟩; have hbel2 : Hid (Below w.heap.size w w') := Lib.hid (below2 hbA.out b2); have hown2 := own_kept hownA b2; clear b2 hbA hownA)
          | (go_at_call 25; (with_reducible refine (cD.out _).mono ?_); rintro e w'' ⟨rfl, rfl⟩)
          | (at_builtin; refine wpList_append_own _ rfl _ _ 34 rfl w.heap.size 2 i0 (.int .i64 0) 1 8 Try.underlying34 hi hz0 hz1 hz2 rfl (by decide) _ _ _ rfl (hown2.alloc _) ⟨w'.heap.size, 0, none⟩ 1 1 [.int .i64 k] rfl rfl ?c1A ?c2A ?c3A ?c4A ?c5A ?_))
        case c1A =>
          intro j u hj
          match j, hj with
          | 0, hj => simp at hj; subst hj; simp [Addr.add]
        case c2A => intro u hu; simp at hu; subst hu; rfl
        case c3A => unfold maxLen; omega
        case c4A => omega
        case c5A => have := hbel2.out.size; simp; omega
        intro v' w3 hown' hgrow' _
        have hb3 : Below w.heap.size w w3 := (hbel2.out.alloc hbel2.out.size (.cells #[.int .i64 k] 2)).grown hgrow' (by have := hbel2.out.size; simp at this ⊢; omega) (fun j hj => hown2.own_ge j hj)
        have hLl : (L ++ [((k) : Int)]).length = L.length + 1 := by simp
        have hown3 : w3.ownsRow w.heap.size 2 1 v' (L ++ [((k) : Int)]).length ((L ++ [((k) : Int)]).map encI) := by
          rw [hLl, List.map_append, List.map_singleton]; simpa [encI] using hown'
        have hb3' := Lib.hid hb3
        clear hgrow' hown' hb3
        go_wp2
        go_roundw
        case rel => exact ⟨k + 1, L ++ [(k : Int)], by omega, by go_num, hL2, by rw [hLl]; omega, hown3, hb3'⟩
        case measure => simp [intOf]; omega
      · have hL2 : Hid (L = setL Z z f (k + 1)) := Lib.hid (by rw [hst.out, if_neg (by simpa using hle), ← hL.out])
        go_wp2_with (first
          | (refine wpList_load_mid rfl _ _ rfl g (o + k * 4) rfl _ _ hr1 Try.underlying26 rfl rfl ?_)
          | (go_at_call 26; (with_reducible refine (cP.out _).mono ?_); rintro e w' ⟨rfl, b2⟩)
          | (go_at_call 25; (with_reducible refine (cD.out _).mono ?_); rintro e w'' ⟨rfl, rfl⟩))
        go_roundw
        case rel => exact ⟨k + 1, L, by omega, by go_num, hL2, by omega, own_kept hownA b2, Lib.hid (below2 hbA.out b2)⟩
        case measure => simp [intOf]; omega
    · obtain rfl : k = Z.length := by omega
      go_wp2
      go_ret2
      exact rowC_mk (hr.out.1.trans hL.out.symm) hr.out.2 (Nat.le_refl _) hown hbel.out
end Go.Proofs.Ytcdpkbcpglaiaaa
