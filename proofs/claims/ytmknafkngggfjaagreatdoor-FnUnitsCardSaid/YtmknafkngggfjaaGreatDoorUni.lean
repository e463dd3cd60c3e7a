/-
  What the law of units asks: texts read back, inches, pieces.
-/
import Derived.Test.YtmknafkngggfjaaGreatDoorReadsI3
import Derived.Test.YtmknafkngggfjaaGreatDoorDraw2
import Derived.Test.YtmknafkngggfjaaGreatDoorTen
import Derived.Test.YtmknafkngggfjaaGreatDoorDryMath
import Derived.Deep.CutRange
import Derived.IntWalk
namespace Go.Proofs.YtmknafkngggfjaaGreatDoor
open Go.ChangeShapes Go.WideShapes Go.ChangeAt Go.RowKit Go.Deep
set_option linter.unusedVariables false
set_option maxRecDepth 1000000
set_option linter.unusedSimpArgs false
def babs (x : Int) : Int := if x < 0 then -x else x
theorem babs_neg {x : Int} (h : x < 0) : babs x = -x := if_pos h
theorem babs_pos {x : Int} (h : ¬ x < 0) : babs x = x := if_neg h
theorem b10Abs_any (x : Int) (h0 : -1000000 ≤ x) (h1 : x ≤ 1000000) (w : World) : Calls Tryz.prog 19 #[.int .i64 x] w fun e w' => e = .returned (.int .i64 (babs x)) ∧ w = w' := by
  by_cases h : x < 0
  · go_enter Tryz.func19, Tryz.ntmps19
    go_wp2
    go_ret
    exact ⟨ret_int (babs_neg (by omega)).symm, rfl⟩
  · go_enter Tryz.func19, Tryz.ntmps19
    go_wp2
    go_ret
    exact ⟨ret_int (babs_pos (by omega)).symm, rfl⟩
theorem optV_eq (o : Option Int) : optV o = .tuple #[.int .i64 (o.getD 0), .bool o.isSome] := by cases o <;> rfl
theorem u8_at {B : Nat} {w W : World} {v : Value} {Z : List Int} (h : U8Old B w v Z) (hB : B ≤ W.heap.size) (hb : Below w.heap.size w W) : U8Old W.heap.size W v Z := by
  obtain ⟨a, cap, h1, h2, h3, h4⟩ := h.below hb
  refine ⟨a, cap, h1, h2, h3, ?_⟩
  rcases h4 with h4 | ⟨g, o, e, hg0, hg, hc⟩
  · exact Or.inl h4
  · exact Or.inr ⟨g, o, e, hg, hg, hc⟩
/-- a text and what is read back of it -/
def Back (tf rf : FuncId) (targs : Array Value) (rargs : ByteArray → Array Value) (l : List UInt8) (m : Int) (D : ByteArray) (bk : Int) (ok : Bool) : Prop :=
  Hid (∀ W, TabP W → Calls Tryz.prog tf targs W fun e w' => e = .returned (.string D) ∧ Below W.heap.size W w') ∧
  Hid (∀ W, TabP W → ErrsAt W → W.ShapedOpen Tryz.prog → Calls Tryz.prog rf (rargs D) W fun e w' => e = .returned (.tuple #[.int .i64 bk, .bool ok]) ∧ Below W.heap.size W w') ∧
  D.data.toList = l ∧ ((l = [] ∧ D = ⟨#[]⟩ ∧ ok = false) ∨ (l ≠ [] ∧ (D.toList == []) = false ∧ ok = true ∧ bk = m))
theorem back_of {tf rf : FuncId} {targs : Array Value} {rargs : ByteArray → Array Value} {l : List UInt8} {r : Option Int} {m : Int}
    (ht : ∀ W, TabP W → Calls Tryz.prog tf targs W (StrRet l W))
    (hr : ∀ D : ByteArray, D.data.toList = l → ∀ W, TabP W → ErrsAt W → W.ShapedOpen Tryz.prog → Calls Tryz.prog rf (rargs D) W fun e w' => e = .returned (optV r) ∧ Below W.heap.size W w')
    (hl : (l = [] ∧ r = none) ∨ (l ≠ [] ∧ r = some m)) : ∃ D bk ok, Back tf rf targs rargs l m D bk ok := by
  obtain ⟨D, hD, hsz, hc⟩ := str_all ht
  refine ⟨D, r.getD 0, r.isSome, hc, Lib.hid (fun W h1 h2 h3 => by have := hr D hD W h1 h2 h3; rw [optV_eq] at this; exact this), hD, ?_⟩
  rcases hl with ⟨h1, h2⟩ | ⟨h1, h2⟩
  · left; refine ⟨h1, ?_, by rw [h2]; rfl⟩
    rw [h1] at hD; exact bytes_of D [] hD
  · right; refine ⟨h1, ?_, by rw [h2]; rfl, by rw [h2]; rfl⟩
    have : (D.toList == (⟨#[]⟩ : ByteArray).toList) = false := str_ne (by rw [hD]; exact h1)
    have e0 : (⟨#[]⟩ : ByteArray).toList = [] := by first | rfl | decide | simp
    rwa [e0] at this
theorem size_of {D : ByteArray} {l : List UInt8} (h : D.data.toList = l) : D.size = l.length := by rw [← h, len_data]
theorem clock_back (m : Int) : ∃ D bk ok, Back 6 7 #[.int .i64 m] (fun D => #[.string D]) (clockT m) m D bk ok := by
  by_cases h : 0 ≤ m ∧ m ≤ 1439
  · obtain ⟨k, rfl⟩ := Int.eq_ofNat_of_zero_le h.1
    have hT : clockT (k : Int) = clockL k := by unfold clockT; rw [if_pos h]; rfl
    have hlen : (clockL k).length = 5 := by unfold clockL; simp [dN_len]
    exact back_of (r := some (k : Int)) (fun W hW => implClockText_any _ W hW)
      (fun D hD W h1 h2 h3 => by have := implReadClock_any D W (by rw [size_of hD, hT, hlen]; decide) h1 h2 h3; rwa [hD, hT, clock_full k (by omega)] at this)
      (Or.inr ⟨(by rw [hT]; intro e; rw [e] at hlen; exact absurd hlen (by decide)), rfl⟩)
  · have hT : clockT m = [] := by unfold clockT; rw [if_neg h]
    exact back_of (r := none) (fun W hW => implClockText_any _ W hW)
      (fun D hD W h1 h2 h3 => by have := implReadClock_any D W (by rw [size_of hD, hT]; decide) h1 h2 h3; rwa [hD, hT] at this)
      (Or.inl ⟨hT, rfl⟩)
theorem clock_five {m : Int} (h : clockT m ≠ []) : (clockT m).length = 5 := by
  unfold clockT at h ⊢
  split
  · unfold clockL; simp [dN_len]
  · rename_i hc; rw [if_neg hc] at h; exact absurd rfl h
theorem lap_back (m : Int) : ∃ D bk ok, Back 12 13 #[.int .i64 m] (fun D => #[.string D]) (lapT m) m D bk ok := by
  by_cases h : 0 ≤ m ∧ m ≤ 1000000000
  · obtain ⟨k, rfl⟩ := Int.eq_ofNat_of_zero_le h.1
    have hT : lapT (k : Int) = lapL k := by unfold lapT; rw [if_pos h]; rfl
    have hlen : (lapL k).length ≤ 13 ∧ 0 < (lapL k).length := by
      unfold lapL
      have := itoa_len_le 8 (k / 60) (by omega)
      rw [List.length_append, List.length_cons, dN_len]; omega
    exact back_of (r := some (k : Int)) (fun W hW => implLapText_any _ W hW)
      (fun D hD W h1 h2 h3 => by have := implReadLap_any D W (by rw [size_of hD, hT]; omega) h1 h2 h3; rwa [hD, hT, lap_full k (by omega)] at this)
      (Or.inr ⟨by rw [hT]; intro e; rw [e] at hlen; exact absurd hlen.2 (by decide), rfl⟩)
  · have hT : lapT m = [] := by unfold lapT; rw [if_neg h]
    exact back_of (r := none) (fun W hW => implLapText_any _ W hW)
      (fun D hD W h1 h2 h3 => by have := implReadLap_any D W (by rw [size_of hD, hT]; decide) h1 h2 h3; rwa [hD, hT] at this)
      (Or.inl ⟨hT, rfl⟩)
theorem lap_spec {m : Int} {D : ByteArray} (h : D.data.toList = lapT m) : Hid (∀ W, Calls Tryz.prog 14 #[.int .i64 m] W fun e w' => e = .returned (.string D) ∧ Below W.heap.size W w') :=
  Lib.hid (fun W => (specLapText_any m W).mono fun e w' hq => ⟨by rw [hq.1, bytes_of D _ h], hq.2⟩)
theorem fixS_short {l : List UInt8} {p : Nat} {n : Int} (h : fixS l p = some n) : l.length ≤ 20 := by
  unfold fixS at h; split at h
  · rename_i hc; exact hc.1
  · cases h
theorem fixQ_nil (q : Int) : fixQ [] q = none := by
  cases h : fixQ [] q with
  | none => rfl
  | some n =>
    unfold fixQ at h; split at h
    · exact absurd rfl (fixS_sound h).2
    · cases h
theorem fix_back (n q : Int) : ∃ D bk ok, Back 9 10 #[.int .i64 n, .int .i64 q] (fun D => #[.string D, .int .i64 q]) (fixT n q) n D bk ok := by
  by_cases h : fixT n q = []
  · exact back_of (r := none) (fun W hW => implFixedText_any _ _ W hW)
      (fun D hD W h1 h2 h3 => by have := implReadFixed_any D q W (by rw [size_of hD, h]; decide) h1 h2 h3; rwa [hD, h, fixQ_nil] at this)
      (Or.inl ⟨h, rfl⟩)
  · obtain ⟨hn, hq⟩ := fixT_in h
    obtain ⟨p, rfl⟩ := Int.eq_ofNat_of_zero_le (show 0 ≤ q by omega)
    have hS : fixS (fixT n (p : Int)) p = some n := fixS_full ⟨rfl, h⟩
    have hl := fixS_short hS
    have hQ : fixQ (fixT n (p : Int)) (p : Int) = some n := by rw [fixQ_yes (by omega) (by omega)]; exact hS
    exact back_of (r := some n) (fun W hW => implFixedText_any _ _ W hW)
      (fun D hD W h1 h2 h3 => by have := implReadFixed_any D (p : Int) W (by rw [size_of hD]; omega) h1 h2 h3; rwa [hD, hQ] at this)
      (Or.inr ⟨h, rfl⟩)
theorem len_back (n : Int) : ∃ D bk ok, Back 16 17 #[.int .i64 n] (fun D => #[.string D]) (lenT n) n D bk ok := by
  by_cases h : 0 ≤ n ∧ n ≤ 1000000000
  · have hT := lenT_pos h.1 h.2
    have hne : fixT n 1 ≠ [] := by
      have := fixT_full (n := n) (p := 1) (by omega) (by omega)
      rw [show ((1 : Nat) : Int) = 1 from rfl] at this
      rw [this, (fixL_pos h.1 1).1]; unfold fixU; simp
    have hS : fixS (fixT n 1) 1 = some n := fixS_full (p := 1) ⟨rfl, hne⟩
    have hl := fixS_short hS
    have hlm : (lenT n).length = (fixT n 1).length + 3 := by rw [hT, List.length_append]; rfl
    have h0 : 0 < (fixT n 1).length := List.length_pos_iff.2 hne
    have hL : lenS (lenT n) = some n := by
      unfold lenS
      rw [if_pos ⟨by omega, by rw [hlm, Nat.add_sub_cancel, hT, List.drop_left]⟩, hlm, Nat.add_sub_cancel, hT, List.take_left, hS]
      exact if_pos h
    exact back_of (r := some n) (fun W hW => implLengthText_any _ W hW)
      (fun D hD W h1 h2 h3 => by have := implReadLength_any D W (by rw [size_of hD]; omega) h1 h2 h3; rwa [hD, hL] at this)
      (Or.inr ⟨by intro e; rw [e] at hlm; simp at hlm, rfl⟩)
  · have hT : lenT n = [] := by unfold lenT; rw [if_neg h]
    exact back_of (r := none) (fun W hW => implLengthText_any _ W hW)
      (fun D hD W h1 h2 h3 => by have := implReadLength_any D W (by rw [size_of hD, hT]; decide) h1 h2 h3; rwa [hD, hT] at this)
      (Or.inl ⟨hT, rfl⟩)
theorem inch_facts (n : Int) : ∃ P c, Hid (∀ W, Calls Tryz.prog 18 #[.int .i64 n] W fun e w' => e = .returned (.tuple #[.int .i64 P, .int .i64 c]) ∧ Below W.heap.size W w') ∧
    Hid (c = 0 → ∃ V : Int, Hid (∀ W, Calls Tryz.prog 19 #[.int .i64 (254 * P - 64 * n)] W fun e w' => e = .returned (.int .i64 V) ∧ W = w') ∧ (0 ≤ n ∧ n ≤ 1000000000) ∧ (0 ≤ P ∧ P ≤ 1000000000) ∧ (0 ≤ V ∧ V ≤ 127)) := by
  refine ⟨_, _, Lib.hid (fun W => (implInchParts_any n W).mono fun e w' hq => ⟨hq.1, by obtain ⟨k, rfl⟩ := hq.2; exact belowN (Below.refl _ _) k⟩), Lib.hid (fun hc => ?_)⟩
  cases hb : inB n 0 1000000000
  · rw [hb] at hc; exact absurd hc (by decide)
  have h := inB_iff.1 hb
  rw [pick_t rfl]
  have r1 := rnd_upper (a := 64 * n) (b := 254) (by decide)
  have r2 := rnd_lower (a := 64 * n) (b := 254) (by decide)
  refine ⟨babs (254 * rnd (64 * n) 254 - 64 * n), Lib.hid (fun W => b10Abs_any _ (by omega) (by omega) W), h, by omega, ?_⟩
  unfold babs; split <;> omega
/-- what a division by pieces gives -/
structure PcsF (l e s S : Int) : Prop where
  s0 : 0 ≤ S
  s1 : S ≤ 2000000000
  w1 : IntKind.i64.wrap (S * e) = S * e
  w2 : IntKind.i64.wrap ((S - 1) * s) = (S - 1) * s
  w3 : IntKind.i64.wrap (S * e + (S - 1) * s) = S * e + (S - 1) * s
  d1 : decide (S * e + (S - 1) * s ≤ l) = true
  w4 : IntKind.i64.wrap ((S + 1) * e) = (S + 1) * e
  w5 : IntKind.i64.wrap (S * s) = S * s
  w6 : IntKind.i64.wrap ((S + 1) * e + S * s) = (S + 1) * e + S * s
  d2 : decide (l < (S + 1) * e + S * s) = true
theorem pcs_facts {l e s : Int} (hl : 0 ≤ l ∧ l ≤ 1000000000) (he : 1 ≤ e ∧ e ≤ 1000000000) (hs : 0 ≤ s ∧ s ≤ 1000) : PcsF l e s ((l + s) / (e + s)) := by
  obtain ⟨S, hS⟩ : ∃ S, S = (l + s) / (e + s) := ⟨_, rfl⟩
  have h1 : S * (e + s) ≤ l + s := by rw [hS]; exact Int.ediv_mul_le _ (by omega)
  have h2 : l + s < (S + 1) * (e + s) := by rw [hS]; exact Int.lt_ediv_add_one_mul_self _ (by omega)
  have h3 : 0 ≤ S := by rw [hS]; exact Int.ediv_nonneg (by omega) (by omega)
  have h4 : S ≤ l + s := by rw [hS]; exact Int.ediv_le_self _ (by omega)
  rw [← hS]
  have a1 : S * (e + s) = S * e + S * s := Int.mul_add _ _ _
  have a2 : (S + 1) * (e + s) = S * e + S * s + (e + s) := by rw [Int.add_mul, Int.one_mul, a1]
  have a3 : (S - 1) * s = S * s - s := by rw [Int.sub_mul, Int.one_mul]
  have a4 : (S + 1) * e = S * e + e := by rw [Int.add_mul, Int.one_mul]
  have p1 : 0 ≤ S * e := Int.mul_nonneg h3 (by omega)
  have p2 : 0 ≤ S * s := Int.mul_nonneg h3 hs.1
  rw [a1] at h1
  rw [a2] at h2
  exact ⟨h3, by omega, IntWalk.i64_in _ (by omega), IntWalk.i64_in _ (by omega), IntWalk.i64_in _ (by omega), decide_eq_true (by omega), IntWalk.i64_in _ (by omega), IntWalk.i64_in _ (by omega), IntWalk.i64_in _ (by omega), decide_eq_true (by omega)⟩
theorem pieces_facts (l e s : Int) : ∃ S c, Hid (∀ W, Calls Tryz.prog 21 #[.int .i64 l, .int .i64 e, .int .i64 s] W fun e w' => e = .returned (.tuple #[.int .i64 S, .int .i64 c]) ∧ W = w') ∧ Hid (¬ c = 0 → S = 0) ∧ Hid (c = 0 → PcsF l e s S ∧ (0 ≤ l ∧ l ≤ 1000000000) ∧ (1 ≤ e ∧ e ≤ 1000000000) ∧ (0 ≤ s ∧ s ≤ 1000)) := by
  refine ⟨_, _, Lib.hid (fun W => implPiecesFrom_any l e s W), Lib.hid (fun hc => ?_), Lib.hid (fun hc => ?_)⟩
  · cases hb : (inB l 0 1000000000 && inB e 1 1000000000 && inB s 0 1000)
    · exact pick_f rfl _
    · rw [hb] at hc; exact absurd rfl hc
  · cases hb : (inB l 0 1000000000 && inB e 1 1000000000 && inB s 0 1000)
    · rw [hb] at hc; exact absurd hc (by decide)
    · rw [pick_t rfl]
      simp only [Bool.and_eq_true, inB_iff] at hb
      exact ⟨pcs_facts hb.1.1 hb.1.2 hb.2, hb.1.1, hb.1.2, hb.2⟩
end Go.Proofs.YtmknafkngggfjaaGreatDoor
