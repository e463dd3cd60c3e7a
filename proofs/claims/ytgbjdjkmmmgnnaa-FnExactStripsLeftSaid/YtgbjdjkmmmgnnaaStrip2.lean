/-
  Strips: new ones, what is asked of them, ribs that are too long for them; the model's questions.
-/
import Derived.Test.YtgbjdjkmmmgnnaaStrip
import Derived.BigQuiet
import Derived.Deep.QuietTactic
import Derived.Deep.RegionHeld3
namespace Go.Proofs.Ytgbjdjkmmmgnnaa
open Go.ChangeShapes Go.WideShapes Go.ChangeAt Go.RowKit Go.Deep
set_option linter.unusedVariables false
set_option linter.unusedSimpArgs false
set_option maxRecDepth 1000000
theorem newStrips_any (L W : Int) (w : World) : Calls Try.prog 50 #[.int .i64 L, .int .i64 W] w fun e w' => e = .returned (.pointer (some ⟨w.heap.size + 1, 0, none⟩)) ∧ StripAt w.heap.size w' (w.heap.size + 1) w.heap.size L W [] [] ∧ Below w.heap.size w w' := by
  have hmm := @run_makeMap Try.prog
  have hb1 : Below w.heap.size w (w.alloc (.map #[] 0)) := (Below.refl _ _).alloc (Nat.le_refl _) _
  have e1 : (w.alloc (.map #[] 0)).heap.size = w.heap.size + 1 := by simp
  have hm := mapOf_start w
  have hb2 : Below w.heap.size w ((w.alloc (.map #[] 0)).alloc (.cells #[.int .i64 L, .int .i64 W, .map (some w.heap.size), .slice none 0 0] 68)) := hb1.alloc (by simp) _
  have hp := heap_alloc_new (w.alloc (.map #[] 0)) (.cells #[.int .i64 L, .int .i64 W, .map (some w.heap.size), .slice none 0 0] 68)
  rw [e1] at hp
  have hst : StripAt w.heap.size ((w.alloc (.map #[] 0)).alloc (.cells #[.int .i64 L, .int .i64 W, .map (some w.heap.size), .slice none 0 0] 68)) (w.heap.size + 1) w.heap.size L W [] [] :=
    ⟨by omega, Nat.le_refl _, ⟨.slice none 0 0, hp, World.ownsRow_nil _ _ _ _⟩, hm.kept (below_grown' ((Below.refl _ _).alloc (Nat.le_refl _) _) none) (by simp)⟩
  have hst' := Lib.hid hst
  have hb2' := Lib.hid hb2
  clear hb1 e1 hm hb2 hp hst
  go_enter Try.func50, Try.ntmps50
  go_wp2
  go_ret
  exact ⟨by simp, hst'.out, hb2'.out⟩
theorem areAsStated_any (B p m : Nat) (L W : Int) (U G : List Int) (w : World) (h : StripAt B w p m L W U G) : Calls Try.prog 51 #[.pointer (some ⟨p, 0, none⟩)] w fun e w' => e = .returned (.bool (inB L 1 100000 && inB W 0 100)) ∧ w = w' := by
  obtain ⟨_, _, ⟨gv, h1, _⟩, _⟩ := h
  have k0 := cellB h1 0 _ rfl
  have k1 := cellB h1 1 _ rfl
  clear h1
  cases h2 : inB L 1 100000 <;> cases h3 : inB W 0 100
  all_goals
    go_enter Try.func51, Try.ntmps51
    go_wp2_with (go_at_call 59; refine (within64_any _ _ _ _).mono ?_; rintro e w' ⟨rfl, rfl⟩)
    go_ret
    exact ⟨rfl, rfl⟩
theorem used_any (B p m : Nat) (L W : Int) (U G : List Int) (w : World) (h : StripAt B w p m L W U G) : Calls Try.prog 54 #[.pointer (some ⟨p, 0, none⟩)] w fun e w' => e = .returned (.int .i64 (U.length : Int)) ∧ w = w' := by
  obtain ⟨_, _, ⟨gv, h1, _⟩, h3⟩ := h
  have k2 := cellB h1 2 _ rfl
  have hl := fun ty => h3.len ty
  clear h1
  go_enter Try.func54, Try.ntmps54
  go_wp2
  go_ret
  exact ⟨rfl, rfl⟩
/-- no rib is longer than a strip -/
def lngS (Z : List Rib) (L : Int) (i : Nat) : Bool := decide ((Z.getD i rib0).len ≤ L)
theorem tooShort1_any (bx p : Nat) (L : Int) (s : ByteArray) (a b : Int) (w : World) (hbx : bx < w.heap.size) (hp : p < w.heap.size) (c1 : w.cell? ⟨bx, 0, none⟩ = some (.pointer (some ⟨p, 0, none⟩))) (c2 : w.cell? ⟨p, 0, none⟩ = some (.int .i64 L)) :
    Calls Try.prog 61 #[.agg #[.string s, .int .i64 a, .int .i64 b], .pointer (some ⟨bx, 0, none⟩)] w fun e w' => e = .returned (.bool (decide (L < a))) ∧ Below w.heap.size w w' := by
  have hb : Below w.heap.size w (w.alloc (.cells #[.string s, .int .i64 a, .int .i64 b] 50)) := (Below.refl _ _).alloc (Nat.le_refl _) _
  have q1 := heap_alloc_new w (.cells #[.string s, .int .i64 a, .int .i64 b] 50)
  have y1 := cellB q1 1 _ rfl
  replace c1 := (hb.cell (p := ⟨bx, 0, none⟩) hbx).trans c1
  replace c2 := (hb.cell (p := ⟨p, 0, none⟩) hp).trans c2
  go_enter Try.func61, Try.ntmps61
  go_wp2_with fail
  generalize w.alloc (.cells #[.string s, .int .i64 a, .int .i64 b] 50) = W0 at hb q1 y1 c1 c2 ⊢
  go_quiet (fail)
  go_wp2
  go_ret
  exact ⟨rfl, belowN hb _⟩
set_option maxHeartbeats 1600000 in
theorem indexLong_any (v : Value) (Z : List Rib) (bx p : Nat) (L : Int) (w : World) (hn : Z.length ≤ 1000) (hbx : bx < w.heap.size) (hp : p < w.heap.size) (c1 : w.cell? ⟨bx, 0, none⟩ = some (.pointer (some ⟨p, 0, none⟩))) (c2 : w.cell? ⟨p, 0, none⟩ = some (.int .i64 L)) (hv : RibsAt w v Z) :
    Calls Try.prog 66 #[v, .func (Fn.func 61) #[] #[.pointer (some ⟨bx, 0, none⟩)]] w fun e w' => ∃ n : Int, e = .returned (.int .i64 n) ∧ decide (0 ≤ n) = !(allK (lngS Z L) Z.length) ∧ Below w.heap.size w w' := by
  obtain ⟨a0, cap, rfl, hcap, hids, hread⟩ := hv
  have hread' := Lib.hid hread
  clear hread hids
  go_enter Try.func66, Try.ntmps66
  go_wp2
  go_loopw [8] (fun i wr => ∃ k : Nat, k ≤ Z.length ∧ i = .int .i64 k ∧ Hid (allK (lngS Z L) k = true) ∧ Hid (Below w.heap.size w wr)) (fun i _ => Z.length - (intOf i).toNat)
  case atStart => exact ⟨0, by omega, rfl, Lib.hid rfl, Lib.hid (Below.refl _ _)⟩
  case round =>
    obtain ⟨k, hk, rfl, hall, hbel⟩ := hrel
    by_cases hlt : k < Z.length
    · rcases hread'.out with h | ⟨g, o, rfl, hg, hc⟩
      · subst h; simp at hlt
      have hltI : (k : Int) < (Z.length : Int) := by omega
      obtain ⟨x, hx⟩ : ∃ x, x = Z[k] := ⟨_, rfl⟩
      have hr := range_below (hc k hlt) hg hbel.out
      rw [← hx] at hr
      have hst : Hid (lngS Z L k = decide (x.len ≤ L)) := Lib.hid (by unfold lngS; rw [rib_getD_at' hlt, ← hx])
      obtain ⟨s, a, b⟩ := x
      simp only at hst
      have hr1 : wr.rangeAt g (o + k * 3) [.string s, .int .i64 a, .int .i64 b] := hr
      have cT := Lib.hid (tooShort1_any bx p L s a b wr (Nat.lt_of_lt_of_le hbx hbel.out.size) (Nat.lt_of_lt_of_le hp hbel.out.size) ((hbel.out.cell (p := ⟨bx, 0, none⟩) hbx).trans c1) ((hbel.out.cell (p := ⟨p, 0, none⟩) hp).trans c2))
      clear hr hx hc
      by_cases hcmp : L < a
      · rw [decide_eq_true hcmp] at cT
        have hno : Hid (allK (lngS Z L) Z.length = false) := Lib.hid (allK_no (by rw [hst.out, decide_eq_false (by omega)]) hlt)
        go_wp2_with (first
          | (refine wpList_load_mid rfl _ _ rfl g (o + k * 3) rfl _ _ hr1 Try.underlying50 rfl rfl ?_)
          | (go_at_call 61; (with_reducible refine cT.out.mono ?_); rintro e w2 ⟨rfl, b2⟩))
        go_ret
        exact ⟨_, rfl, by rw [hno.out, decide_eq_true (by omega)]; rfl, below2 hbel.out b2⟩
      · rw [decide_eq_false hcmp] at cT
        have hall2 : Hid (allK (lngS Z L) (k + 1) = true) := Lib.hid (allK_yes hall.out (by rw [hst.out, decide_eq_true (by omega)]))
        go_wp2_with (first
          | (refine wpList_load_mid rfl _ _ rfl g (o + k * 3) rfl _ _ hr1 Try.underlying50 rfl rfl ?_)
          | (go_at_call 61; (with_reducible refine cT.out.mono ?_); rintro e w2 ⟨rfl, b2⟩))
        go_roundw
        case rel => exact ⟨k + 1, by omega, by go_num, hall2, Lib.hid (below2 hbel.out b2)⟩
        case measure => simp [intOf]; omega
    · obtain rfl : k = Z.length := by omega
      go_wp2
      go_ret
      exact ⟨_, rfl, by rw [hall.out]; rfl, hbel.out⟩
theorem containsLong_any (v : Value) (Z : List Rib) (bx p : Nat) (L : Int) (w : World) (hn : Z.length ≤ 1000) (hbx : bx < w.heap.size) (hp : p < w.heap.size) (c1 : w.cell? ⟨bx, 0, none⟩ = some (.pointer (some ⟨p, 0, none⟩))) (c2 : w.cell? ⟨p, 0, none⟩ = some (.int .i64 L)) (hv : RibsAt w v Z) :
    Calls Try.prog 60 #[v, .func (Fn.func 61) #[] #[.pointer (some ⟨bx, 0, none⟩)]] w fun e w' => e = .returned (.bool (!(allK (lngS Z L) Z.length))) ∧ Below w.heap.size w w' := by
  have cI := Lib.hid (indexLong_any v Z bx p L w hn hbx hp c1 c2 hv)
  clear hv c1 c2
  go_enter Try.func60, Try.ntmps60
  go_wp2_with (go_at_call 66; (with_reducible refine cI.out.mono ?_); rintro e w2 ⟨n, rfl, hd, b2⟩)
  go_ret
  exact ⟨ret_bool (by first | rfl | exact hd), b2⟩
theorem areTooShort_any (B p m : Nat) (L W : Int) (U G : List Int) (v : Value) (Z : List Rib) (w : World) (hn : Z.length ≤ 1000) (h : StripAt B w p m L W U G) (hv : RibsAt w v Z) : Calls Try.prog 52 #[.pointer (some ⟨p, 0, none⟩), v] w fun e w' => e = .returned (.bool (!(allK (lngS Z L) Z.length))) ∧ Below w.heap.size w w' := by
  have hlt := h.lt
  obtain ⟨_, _, ⟨gv, h1, _⟩, _⟩ := h
  have hb : Below w.heap.size w (w.alloc (.cells #[.pointer (some ⟨p, 0, none⟩)] 63)) := (Below.refl _ _).alloc (Nat.le_refl _) _
  have q1 := cellB (heap_alloc_new w (.cells #[.pointer (some ⟨p, 0, none⟩)] 63)) 0 _ rfl
  have cC := Lib.hid (containsLong_any v Z w.heap.size p L _ hn (by simp) (by simp; omega) q1 ((hb.cell (p := ⟨p, 0, none⟩) hlt).trans (cellB h1 0 _ rfl)) (hv.below hb))
  clear h1 q1 hv
  go_enter Try.func52, Try.ntmps52
  go_wp2_with (go_at_call 60; (with_reducible refine cC.out.mono ?_); rintro e w2 ⟨rfl, b2⟩)
  go_ret
  exact ⟨rfl, below2 hb b2⟩
def askB (L W : Int) : Bool := inB L 1 100000 && inB W 0 100
def askC (Z : List Rib) (L W : Int) : Int := if ribsB Z = true then (if askB L W = true then 0 else 2) else 1
theorem l06Ask_any (v : Value) (Z : List Rib) (L W : Int) (w : World) (hn : Z.length ≤ 1048576) (hv : RibsAt w v Z) : Calls Try.prog 47 #[v, .int .i64 L, .int .i64 W] w fun e w' => e = .returned (.int .i64 (askC Z L W)) ∧ DrewOf w w' := by
  have cV := Lib.hid (l06Ok_any v Z w hn hv)
  have hx : Hid (askC Z L W = if ribsB Z = true then (if askB L W = true then 0 else 2) else 1) := Lib.hid rfl
  have hy : Hid (askB L W = (inB L 1 100000 && inB W 0 100)) := Lib.hid rfl
  cases h1 : ribsB Z
  · rw [h1] at cV
    go_enter Try.func47, Try.ntmps47
    go_wp2_with (go_at_call 34; (with_reducible refine cV.out.mono ?_); rintro e w1 ⟨rfl, b1⟩)
    go_ret
    exact ⟨ret_int (by rw [hx.out, h1]; rfl), b1⟩
  rw [h1] at cV
  cases h2 : inB L 1 100000 <;> cases h3 : inB W 0 100
  all_goals
    go_enter Try.func47, Try.ntmps47
    go_wp2_with (first
      | (go_at_call 34; (with_reducible refine cV.out.mono ?_); rintro e w1 ⟨rfl, b1⟩)
      | (go_at_call 55; refine (l00In_any _ _ _ _).mono ?_; rintro e w' ⟨rfl, rfl⟩))
    go_ret
    exact ⟨ret_int (by rw [hx.out, hy.out, h1, h2, h3]; rfl), b1⟩
def shortC (Z : List Rib) (L : Int) : Int := if allK (lngS Z L) Z.length = true then 0 else 6
set_option maxHeartbeats 1600000 in
theorem l06Short_any (v : Value) (Z : List Rib) (L : Int) (w : World) (hn : Z.length ≤ 1000) (hv : RibsAt w v Z) : Calls Try.prog 48 #[v, .int .i64 L] w fun e w' => e = .returned (.int .i64 (shortC Z L)) ∧ DrewOf w w' := by
  have hx0 : Hid (shortC Z L = if allK (lngS Z L) Z.length = true then 0 else 6) := Lib.hid rfl
  obtain ⟨a0, cap, rfl, hcap, hids, hread⟩ := hv
  have hread' := Lib.hid hread
  clear hread hids
  go_enter Try.func48, Try.ntmps48
  go_wp2
  go_loopw [5] (fun i wr => ∃ k : Nat, k ≤ Z.length ∧ i = .int .i64 k ∧ Hid (allK (lngS Z L) k = true) ∧ DrewOf w wr) (fun i _ => Z.length - (intOf i).toNat)
  case atStart => exact ⟨0, by omega, rfl, Lib.hid rfl, DrewOf.refl _⟩
  case round =>
    obtain ⟨k, hk, rfl, hall, hd⟩ := hrel
    by_cases hlt : k < Z.length
    · rcases hread'.out with h | ⟨g, o, rfl, hg, hc⟩
      · subst h; simp at hlt
      have hltI : (k : Int) < (Z.length : Int) := by omega
      have c1 := ribLen_at hd (hc k hlt)
      have hst : Hid (lngS Z L k = decide (Z[k].len ≤ L)) := Lib.hid (by unfold lngS; rw [rib_getD_at' hlt])
      obtain ⟨a, ha⟩ : ∃ a, a = Z[k].len := ⟨_, rfl⟩
      rw [← ha] at c1 hst
      clear ha hc
      by_cases hcmp : L < a
      · have hno : Hid (allK (lngS Z L) Z.length = false) := Lib.hid (allK_no (by rw [hst.out, decide_eq_false (by omega)]) hlt)
        go_wp2
        go_ret
        exact ⟨ret_int (by rw [hx0.out, hno.out]; rfl), hd⟩
      · have hall2 : Hid (allK (lngS Z L) (k + 1) = true) := Lib.hid (allK_yes hall.out (by rw [hst.out, decide_eq_true (by omega)]))
        go_wp2
        go_roundw
        case rel => exact ⟨k + 1, by omega, by go_num, hall2, hd⟩
        case measure => simp [intOf]; omega
    · obtain rfl : k = Z.length := by omega
      go_wp2
      go_ret
      exact ⟨ret_int (by rw [hx0.out, hall.out]; rfl), hd⟩
def takeV (u a W : Int) : Int := if u = 0 then a else a + W
theorem l06Take_any (u a W : Int) (ha : 0 ≤ a ∧ a ≤ 1000000) (hW : 0 ≤ W ∧ W ≤ 1000) (w : World) : Calls Try.prog 49 #[.int .i64 u, .int .i64 a, .int .i64 W] w fun e w' => e = .returned (.int .i64 (takeV u a W)) ∧ w = w' := by
  have hx : Hid (takeV u a W = if u = 0 then a else a + W) := Lib.hid rfl
  by_cases h : u = 0
  · have h1 : (u == 0) = true := beq_iff_eq.2 h
    go_enter Try.func49, Try.ntmps49
    go_wp2
    go_ret
    exact ⟨ret_int (by rw [hx.out, if_pos h]), rfl⟩
  · have h1 : (u == 0) = false := beq_eq_false_iff_ne.2 h
    go_enter Try.func49, Try.ntmps49
    go_wp2
    go_ret
    exact ⟨ret_int (by rw [hx.out, if_neg h]), rfl⟩
theorem cut_no (B p m : Nat) (L W : Int) (U G : List Int) (k : Nat) (s : ByteArray) (a b : Int) (w : World) (hL : 1 ≤ L ∧ L ≤ 100000) (hW : 0 ≤ W ∧ W ≤ 100) (hU : inU U) (ha : 1 ≤ a ∧ a ≤ 10000) (hk : k ≤ U.length) (hlU : U.length ≤ 1000) (hlG : G.length ≤ 1000) (hB : B ≤ w.heap.size) (h0 : StripAt B w p m L W U G) (hf : fitsK L W U k a = false) : Calls Try.prog 53 #[.pointer (some ⟨p, 0, none⟩), .int .i64 k, .agg #[.string s, .int .i64 a, .int .i64 b]] w fun e w' => e = .returned (.bool false) ∧ StripAt B w' p m L W U G ∧ Below w.heap.size w w' := by
  refine (cut_any B p m L W U G k s a b w hL hW hU ha hk hlU hlG hB h0).mono ?_
  rintro e w' ⟨he, hs, _, hb⟩
  rw [hf] at he hs
  exact ⟨he, hs, hb hf⟩
theorem cut_yes (B p m : Nat) (L W : Int) (U G : List Int) (k : Nat) (s : ByteArray) (a b : Int) (w : World) (hL : 1 ≤ L ∧ L ≤ 100000) (hW : 0 ≤ W ∧ W ≤ 100) (hU : inU U) (ha : 1 ≤ a ∧ a ≤ 10000) (hk : k ≤ U.length) (hlU : U.length ≤ 1000) (hlG : G.length ≤ 1000) (hB : B ≤ w.heap.size) (h0 : StripAt B w p m L W U G) (hf : fitsK L W U k a = true) : Calls Try.prog 53 #[.pointer (some ⟨p, 0, none⟩), .int .i64 k, .agg #[.string s, .int .i64 a, .int .i64 b]] w fun e w' => e = .returned (.bool true) ∧ StripAt B w' p m L W (cutU L W U k a) (G ++ [(k : Int)]) ∧ Below B w w' := by
  refine (cut_any B p m L W U G k s a b w hL hW hU ha hk hlU hlG hB h0).mono ?_
  rintro e w' ⟨he, hs, hb, _⟩
  rw [hf, if_pos rfl, if_pos rfl] at hs
  rw [hf] at he
  exact ⟨he, hs, hb⟩
end Go.Proofs.Ytgbjdjkmmmgnnaa
