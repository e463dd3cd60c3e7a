/-
  What the law of strings asks of each part, over opaque values.
-/
import Derived.Test.YtnenccfmopjcjaaGreatDoorCrdP
import Derived.Test.YtnenccfmopjcjaaGreatDoorCrdW
import Derived.Test.YtnenccfmopjcjaaGreatDoorCrdX
import Derived.Test.YtnenccfmopjcjaaGreatDoorCrdRd
import Derived.Test.YtnenccfmopjcjaaGreatDoorBackMath
import Derived.Test.YtnenccfmopjcjaaGreatDoorDrc
import Derived.Test.YtnenccfmopjcjaaGreatDoorBas
namespace Go.Proofs.YtnenccfmopjcjaaGreatDoor
open Go.ChangeShapes Go.WideShapes Go.ChangeAt Go.RowKit Go.Deep
set_option linter.unusedVariables false
set_option maxRecDepth 1000000
set_option linter.unusedSimpArgs false
theorem lst_pre (p : Nat → Bool) (n j : Nat) (h : j < lstN p n) : p j = false := by
  unfold lstN at h
  cases hf : (List.range n).find? p with
  | none =>
    rw [hf] at h
    simp at h
    have := List.find?_eq_none.1 hf j (List.mem_range.2 h)
    simpa using this
  | some q =>
    rw [hf] at h
    simp at h
    have := (List.find?_range_eq_some.1 hf).2.2 j h
    simpa using this
theorem lst_yes (p : Nat → Bool) (n : Nat) (h : lstN p n < n) : p (lstN p n) = true := by
  unfold lstN at h ⊢
  cases hf : (List.range n).find? p with
  | none => rw [hf] at h; simp at h
  | some q => simpa using (List.find?_range_eq_some.1 hf).1
theorem lst_le (p : Nat → Bool) (n : Nat) : lstN p n ≤ n := by
  unfold lstN
  cases hf : (List.range n).find? p with
  | none => simp
  | some q =>
    have := List.mem_range.1 (List.mem_of_find?_eq_some hf)
    simp; omega
theorem crd_ok {a b c d : Int} (ha : 1 ≤ a ∧ a ≤ 10000) (hb : 1 ≤ b ∧ b ≤ 500) (hc : 1 ≤ c ∧ c ≤ 10000) (hd : 1 ≤ d ∧ d ≤ 500000) : crdB ⟨a, b, c, d⟩ = true := by
  unfold crdB
  simp only [Bool.and_eq_true, inB_iff]
  exact ⟨⟨⟨ha, hb⟩, hc⟩, hd⟩
theorem ten_low {a b c : Int} (ha : 1960 ≤ a) (hb : 320 ≤ b) (hc : 300 ≤ c) : 1 ≤ tenV a b c := by
  have h1 := prd_monoA (a := 1960) (a' := a) (b := b) (c := c) (by omega) ha (by omega) (by omega)
  have h2 := prd_monoC (a := 1960) (b := b) (c := 300) (c' := c) (by omega) (by omega) hc
  have h3 : 320 * 320 ≤ b * b := Int.mul_le_mul hb hb (by omega) (by omega)
  have h4 : prdV 1960 b 300 = 4 * 1960 * 1960 * (b * b) * 300 := by unfold prdV; rw [Int.mul_assoc (4 * 1960 * 1960) b b]
  have h5 : 100000000000 ≤ prdV a b c := by omega
  unfold tenV
  rw [rnd_of_pos (by decide), rp_pos (by omega)]
  omega
set_option maxHeartbeats 1600000 in
theorem r8AtN_any (k B : Nat) (n : Int) (v : Value) (Z : List Int) (w : World) (hk : k ≤ 100) (h1 : 1 < n) (h2 : n ≤ 256) (hZ : Z.length ≤ 1048576) (hu : U8Old B w v Z) :
    Calls Tryz.prog 11 #[v, .int .i64 k, .int .i64 n] w fun e w' => ∃ r : Int, e = .returned (.int .i64 r) ∧ 0 ≤ r ∧ r < n ∧ ∃ m, w' = w.drewN m := by
  obtain ⟨a, cap, rfl, hcap, hin, hread⟩ := hu
  by_cases hlt : k < Z.length
  · rcases hread with rfl | ⟨g, o, rfl, hg0, hg, hc⟩
    · simp at hlt
    obtain ⟨x, hx⟩ : ∃ x, x = Z[k] := ⟨_, rfl⟩
    have c3 : w.cell? ⟨g, o + k, none⟩ = some (.int .u8 x) := by rw [hx]; exact hc k hlt
    have hxi := hin _ (List.getElem_mem hlt)
    rw [← hx] at hxi
    have q0 := Int.emod_nonneg x (show n ≠ 0 by omega)
    have q1 := Int.emod_lt_of_pos x (show 0 < n by omega)
    have e1 : x.tmod n = x % n := Int.tmod_eq_emod_of_nonneg (by omega)
    have e2 : IntKind.i64.wrap (x % n) = x % n := IntWalk.i64_in _ (by omega)
    have e3 : (n == 0) = false := by simpa using (show ¬ n = 0 by omega)
    have hd : decide ((Z.length : Int) ≤ (k : Int)) = false := by simp; omega
    have hd0 : decide (n ≤ 1) = false := by simp; omega
    clear hc hin hx
    go_enter Tryz.func11, Tryz.ntmps11
    go_wp2
    go_ret
    exact ⟨_, rfl, q0, q1, 0, rfl⟩
  · clear hread hin
    have hd : decide ((Z.length : Int) ≤ (k : Int)) = true := by simp; omega
    have hd0 : decide (n ≤ 1) = false := by simp; omega
    go_enter Tryz.func11, Tryz.ntmps11
    go_wp2
    go_ret
    exact ⟨0, rfl, by omega, by omega, 0, rfl⟩
theorem text_back {x : Crd} (h : crdB x = true) : crdO (crdT x) = some x ∧ (crdT x).length ≤ 1000 := by
  obtain ⟨a, b, c, d⟩ := x
  obtain ⟨hin, hft⟩ := crd_inI h
  have hb := crd_bd h
  have key : ∀ n ∈ [a, b, c, d], -1000000000000 ≤ n ∧ n ≤ 1000000000000 := by
    intro n hn
    simp only [List.mem_cons, List.not_mem_nil, or_false] at hn
    rcases hn with rfl | rfl | rfl | rfl <;> omega
  have e : crdT ⟨a, b, c, d⟩ = textZ [a, b, c, d] := by unfold crdT; rw [if_pos h]
  have hl : listR [a, b, c, d] = textZ [a, b, c, d] := by unfold listR; rw [if_pos hft]
  have hr := list_back [a, b, c, d] key (by simp) (by simp)
  rw [hl, ← e] at hr
  refine ⟨by rw [crdO_yes hr, if_pos h], ?_⟩
  have ht : textZ [a, b, c, d] = joinK [a, b, c, d] 4 := by
    have := joinK_all [a, b, c, d]
    unfold textZ
    rw [if_neg (by simp)]; exact this.symm
  rw [e, ht]
  have := joinK_le [a, b, c, d] 4 (fun n hn => by have := key n hn; omega)
  omega
/-- three boxes behind a world: one that is only read, two that are written -/
structure YZ (p : World) (Q Y Z : Nat) (q1 q2 q3 q4 y1 y2 y3 y4 z1 z2 z3 z4 : Int) (W : World) : Prop where
  v : Below p.heap.size p W
  q : W.heap[Q]? = some (.cells #[.int .i64 q1, .int .i64 q2, .int .i64 q3, .int .i64 q4] 25 (0, 0))
  y : W.heap[Y]? = some (.cells #[.int .i64 y1, .int .i64 y2, .int .i64 y3, .int .i64 y4] 25 (0, 0))
  z : W.heap[Z]? = some (.cells #[.int .i64 z1, .int .i64 z2, .int .i64 z3, .int .i64 z4] 25 (0, 0))
  hy : p.heap.size ≤ Y
  hz : p.heap.size ≤ Z
  ne : Y ≠ Z
  ny : Q ≠ Y
  nz : Q ≠ Z
theorem YZ.call {p : World} {Q Y Z : Nat} {q1 q2 q3 q4 y1 y2 y3 y4 z1 z2 z3 z4 : Int} {W W' : World} (h : YZ p Q Y Z q1 q2 q3 q4 y1 y2 y3 y4 z1 z2 z3 z4 W) (b : Below W.heap.size W W') : YZ p Q Y Z q1 q2 q3 q4 y1 y2 y3 y4 z1 z2 z3 z4 W' :=
  ⟨below2 h.v b, (b.block _ (lt_some h.q)).trans h.q, (b.block _ (lt_some h.y)).trans h.y, (b.block _ (lt_some h.z)).trans h.z, h.hy, h.hz, h.ne, h.ny, h.nz⟩
theorem YZ.setY {p : World} {Q Y Z : Nat} {q1 q2 q3 q4 y1 y2 y3 y4 z1 z2 z3 z4 : Int} {W : World} (h : YZ p Q Y Z q1 q2 q3 q4 y1 y2 y3 y4 z1 z2 z3 z4 W) (u : Int) : YZ p Q Y Z q1 q2 q3 q4 u y2 y3 y4 z1 z2 z3 z4 (W.setCell ⟨Y, 0, none⟩ (.int .i64 u)) :=
  ⟨h.v.setCell (p := ⟨Y, 0, none⟩) h.hy _, (Below.heap_setCell W ⟨Y, 0, none⟩ (.int .i64 u) _ h.ny).trans h.q, set_at h.y 0 _ _ rfl, (Below.heap_setCell W ⟨Y, 0, none⟩ (.int .i64 u) _ (fun e => h.ne e.symm)).trans h.z, h.hy, h.hz, h.ne, h.ny, h.nz⟩
theorem YZ.setZ {p : World} {Q Y Z : Nat} {q1 q2 q3 q4 y1 y2 y3 y4 z1 z2 z3 z4 : Int} {W : World} (h : YZ p Q Y Z q1 q2 q3 q4 y1 y2 y3 y4 z1 z2 z3 z4 W) (u : Int) : YZ p Q Y Z q1 q2 q3 q4 y1 y2 y3 y4 z1 z2 u z4 (W.setCell ⟨Z, 2, none⟩ (.int .i64 u)) :=
  ⟨h.v.setCell (p := ⟨Z, 2, none⟩) h.hz _, (Below.heap_setCell W ⟨Z, 2, none⟩ (.int .i64 u) _ h.nz).trans h.q, (Below.heap_setCell W ⟨Z, 2, none⟩ (.int .i64 u) _ h.ne).trans h.y, set_at h.z 2 _ _ rfl, h.hy, h.hz, h.ne, h.ny, h.nz⟩
theorem u8_at {B : Nat} {w W : World} {v : Value} {Z : List Int} (h : U8Old B w v Z) (hb : Below w.heap.size w W) : U8Old B W v Z := h.below hb
theorem sA (a b c d : Int) (ha : 1960 ≤ a ∧ a ≤ 6593) (hb : 320 ≤ b ∧ b ≤ 335) (hc : 300 ≤ c ∧ c ≤ 2890) (hd : 60000 ≤ d ∧ d ≤ 149000) : ∃ (t u v sf : Int) (D : ByteArray), Hid (∀ W : World, Calls Tryz.prog 6 #[.agg #[.int .i64 a, .int .i64 b, .int .i64 c, .int .i64 d]] W fun e w' => e = .returned (.tuple #[.int .i64 (t), .int .i64 (0)]) ∧ Below W.heap.size W w') ∧ Hid (∀ W : World, Calls Tryz.prog 6 #[.agg #[.int .i64 (a + 1), .int .i64 (b), .int .i64 (c), .int .i64 (d)]] W fun e w' => e = .returned (.tuple #[.int .i64 (u), .int .i64 (0)]) ∧ Below W.heap.size W w') ∧ Hid (∀ W : World, Calls Tryz.prog 6 #[.agg #[.int .i64 (a), .int .i64 (b), .int .i64 (c + 1), .int .i64 (d)]] W fun e w' => e = .returned (.tuple #[.int .i64 (v), .int .i64 (0)]) ∧ Below W.heap.size W w') ∧ Hid (∀ W : World, Calls Tryz.prog 9 #[.agg #[.int .i64 a, .int .i64 b, .int .i64 c, .int .i64 d]] W fun e w' => e = .returned (.tuple #[.int .i64 (sf), .int .i64 (0)]) ∧ Below W.heap.size W w') ∧
    Hid (∀ W : World, Calls Tryz.prog 10 #[.agg #[.int .i64 a, .int .i64 b, .int .i64 c, .int .i64 d]] W fun e w' => e = .returned (.bool true) ∧ Below W.heap.size W w') ∧
    Hid (∀ W : World, TabP W → Calls Tryz.prog 8 #[.agg #[.int .i64 a, .int .i64 b, .int .i64 c, .int .i64 d]] W fun e w' => e = .returned (.string D) ∧ Below W.heap.size W w') ∧
    Hid (∀ W : World, TabP W → ErrsAt W → W.ShapedOpen Tryz.prog → Calls Tryz.prog 7 #[.string D] W fun e w' => e = .returned (.tuple #[.agg #[.int .i64 a, .int .i64 b, .int .i64 c, .int .i64 d], .bool true]) ∧ Below W.heap.size W w') ∧
    (1 ≤ t ∧ t ≤ 10000000) ∧ t ≤ u ∧ t ≤ v ∧ (1000 * d).tdiv t = sf ∧ (0 ≤ sf ∧ sf ≤ 149000000) := by
  have k1 := crd_ok (a := a) (b := b) (c := c) (d := d) (by omega) (by omega) (by omega) (by omega)
  have k2 := crd_ok (a := a + 1) (b := b) (c := c) (d := d) (by omega) (by omega) (by omega) (by omega)
  have k3 := crd_ok (a := a) (b := b) (c := c + 1) (d := d) (by omega) (by omega) (by omega) (by omega)
  have c1 := fun W => implTensionOf_any a b c d W
  have c2 := fun W => implTensionOf_any (a + 1) b c d W
  have c3 := fun W => implTensionOf_any a b (c + 1) d W
  have c4 := fun W => implSafetyOf_any a b c d W
  have c5 := fun W => implValidString_any a b c d W
  rw [k1] at c1 c4 c5
  rw [k2] at c2
  rw [k3] at c3
  obtain ⟨hT, hlen⟩ := text_back k1
  have cX := fun W (h : TabP W) => implStringText_any a b c d W h
  have cY := fun W (h2 : TabP W) (h3 : ErrsAt W) (h4 : W.ShapedOpen Tryz.prog) => implReadString_any ⟨(crdT ⟨a, b, c, d⟩).toArray⟩ W (by show (crdT ⟨a, b, c, d⟩).toArray.size ≤ _; simp; omega) h2 h3 h4
  have t1 := ten_low ha.1 hb.1 hc.1
  have t2 := ten_bd (a := a) (b := b) (c := c) (by omega) (by omega) (by omega)
  have m1 := ten_monoA (a := a) (a' := a + 1) (b := b) (c := c) (by omega) (by omega) (by omega) (by omega)
  have m2 := ten_monoC (a := a) (b := b) (c := c) (c' := c + 1) (by omega) (by omega) (by omega)
  have hs : sfV true (tenV a b c) d = 1000 * d / tenV a b c := by unfold sfV; rw [if_pos rfl, if_neg (by omega)]
  have hs2 : sfC true (tenV a b c) = 0 := by unfold sfC; rw [if_pos rfl, if_neg (by omega)]
  rw [hs, hs2] at c4
  have q0 := Int.ediv_nonneg (a := 1000 * d) (b := tenV a b c) (by omega) (by omega)
  have q1 := Int.ediv_le_self (a := 1000 * d) (tenV a b c) (by omega)
  refine ⟨_, _, _, _, _, Lib.hid c1, Lib.hid c2, Lib.hid c3, Lib.hid c4, Lib.hid c5, Lib.hid cX, Lib.hid (fun W h2 h3 h4 => ?_), ?_, ?_, ?_, ?_, ?_⟩
  · have := cY W h2 h3 h4
    rw [show (⟨(crdT ⟨a, b, c, d⟩).toArray⟩ : ByteArray).data.toList = crdT ⟨a, b, c, d⟩ by simp, hT] at this
    exact this
  · exact ⟨t1, t2.2⟩
  · exact m1
  · exact m2
  · exact Int.tdiv_eq_ediv_of_nonneg (by omega)
  · omega
theorem sB (a b c d z : Int) (ha : 1960 ≤ a ∧ a ≤ 6593) (hb : 320 ≤ b ∧ b ≤ 335) (hc : 300 ≤ c ∧ c ≤ 2890) (hd : 60000 ≤ d ∧ d ≤ 149000) (hz : 0 ≤ z ∧ z ≤ 1000) : ∃ hi e5 : Int, Hid (∀ W : World, Calls Tryz.prog 12 #[.agg #[.int .i64 a, .int .i64 b, .int .i64 c, .int .i64 d], .int .i64 z] W fun e w' => e = .returned (.tuple #[.int .i64 (hi), .int .i64 (e5)]) ∧ Below W.heap.size W w') ∧ (e5 = 3 ∨ e5 = 0) ∧
    Hid (e5 = 0 → ∃ p q g : Int, Hid (∀ W : World, Calls Tryz.prog 13 #[.agg #[.int .i64 (hi), .int .i64 (b), .int .i64 (c), .int .i64 (d)]] W fun e w' => e = .returned (.tuple #[.int .i64 (p), .int .i64 (0)]) ∧ Below W.heap.size W w') ∧ Hid (∀ W : World, Calls Tryz.prog 13 #[.agg #[.int .i64 (hi + 1), .int .i64 (b), .int .i64 (c), .int .i64 (d)]] W fun e w' => e = .returned (.tuple #[.int .i64 (q), .int .i64 (g)]) ∧ Below W.heap.size W w') ∧ 1000 * p ≤ z * d ∧ ((g = 0 ∧ z * d < 1000 * q) ∨ (g = 1 ∧ q = 0)) ∧ (1 ≤ hi ∧ hi ≤ 10000) ∧ (0 ≤ p ∧ p ≤ 10000000) ∧ (0 ≤ q ∧ q ≤ 10000000) ∧ IntKind.i64.wrap (z * d) = z * d ∧ 0 ≤ z * d ∧ z * d ≤ 1000000000) := by
  have hzd := mulP_bd (a := z) (b := d) (A := 1000) (B := 149000) hz (by omega)
  have wzd : IntKind.i64.wrap (z * d) = z * d := IntWalk.i64_in _ (by omega)
  have k1 := crd_ok (a := a) (b := b) (c := c) (d := d) (by omega) (by omega) (by omega) (by omega)
  have cH := fun W => implHighestPitch_any a b c d z W
  rw [k1, inB_iff.2 hz] at cH
  obtain ⟨r, hr⟩ : ∃ r, r = lstN (hpP b c d z) 10000 := ⟨_, rfl⟩
  have hle : r ≤ 10000 := by rw [hr]; exact lst_le _ _
  refine ⟨(r : Int), hpC r, Lib.hid (fun W => by rw [hr]; exact cH W), ?_, Lib.hid (fun h5 => ?_)⟩
  · unfold hpC; split
    · exact Or.inl rfl
    · exact Or.inr rfl
  · have hr0 : r ≠ 0 := fun e => by unfold hpC at h5; rw [if_pos e] at h5; exact absurd h5 (by decide)
    have hyes := lst_pre (hpP b c d z) 10000 (r - 1) (by omega)
    unfold hpP at hyes
    rw [show ((r - 1 : Nat) : Int) + 1 = (r : Int) by omega] at hyes
    have hold : hldB (r : Int) b c d z = true := by simpa using hyes
    have k2 := crd_ok (a := (r : Int)) (b := b) (c := c) (d := d) (by omega) (by omega) (by omega) (by omega)
    have c1 := fun W => specTensionOf_any (r : Int) b c d W
    rw [k2] at c1
    have t2 := ten_bd (a := (r : Int)) (b := b) (c := c) (by omega) (by omega) (by omega)
    have hp : 1000 * tenV (r : Int) b c ≤ z * d := by unfold hldB at hold; exact of_decide_eq_true hold
    have c2 := fun W => specTensionOf_any ((r : Int) + 1) b c d W
    by_cases hn : r < 10000
    · have k3 := crd_ok (a := (r : Int) + 1) (b := b) (c := c) (d := d) (by omega) (by omega) (by omega) (by omega)
      rw [k3] at c2
      have hno := lst_yes (hpP b c d z) 10000 (by omega)
      rw [← hr] at hno
      unfold hpP at hno
      have hno2 : hldB ((r : Int) + 1) b c d z = false := by simpa using hno
      have hq : z * d < 1000 * tenV ((r : Int) + 1) b c := by
        unfold hldB at hno2
        have := of_decide_eq_false hno2
        omega
      have t3 := ten_bd (a := (r : Int) + 1) (b := b) (c := c) (by omega) (by omega) (by omega)
      exact ⟨_, _, _, Lib.hid c1, Lib.hid c2, hp, Or.inl ⟨rfl, hq⟩, by omega, t2, t3, wzd, hzd.1, by omega⟩
    · have k3 : crdB ⟨(r : Int) + 1, b, c, d⟩ = false := by
        unfold crdB
        have : inB ((r : Int) + 1) 1 10000 = false := by rw [← Bool.not_eq_true, inB_iff]; omega
        simp only [this, Bool.false_and]
      rw [k3] at c2
      exact ⟨_, _, _, Lib.hid c1, Lib.hid c2, hp, Or.inr ⟨rfl, rfl⟩, by omega, t2, by show 0 ≤ pick false _ ∧ _; unfold pick; simp, wzd, hzd.1, by omega⟩
theorem sC (a b c d z : Int) (ha : 1960 ≤ a ∧ a ≤ 6593) (hb : 320 ≤ b ∧ b ≤ 335) (hc : 300 ≤ c ∧ c ≤ 2890) (hd : 60000 ≤ d ∧ d ≤ 149000) (hz : 0 ≤ z ∧ z ≤ 500000) : ∃ le e6 : Int, Hid (∀ W : World, Calls Tryz.prog 14 #[.agg #[.int .i64 a, .int .i64 b, .int .i64 c, .int .i64 d], .int .i64 z] W fun e w' => e = .returned (.tuple #[.int .i64 (le), .int .i64 (e6)]) ∧ Below W.heap.size W w') ∧ (e6 = 3 ∨ e6 = 0) ∧
    Hid (e6 = 0 → ∃ p q g : Int, Hid (∀ W : World, Calls Tryz.prog 13 #[.agg #[.int .i64 (a), .int .i64 (b), .int .i64 (le), .int .i64 (d)]] W fun e w' => e = .returned (.tuple #[.int .i64 (p), .int .i64 (0)]) ∧ Below W.heap.size W w') ∧ Hid (∀ W : World, Calls Tryz.prog 13 #[.agg #[.int .i64 (a), .int .i64 (b), .int .i64 (le - 1), .int .i64 (d)]] W fun e w' => e = .returned (.tuple #[.int .i64 (q), .int .i64 (g)]) ∧ Below W.heap.size W w') ∧ z ≤ p ∧ ((g = 0 ∧ q < z) ∨ (g = 1 ∧ q = 0)) ∧ (1 ≤ le ∧ le ≤ 10000)) := by
  have k1 := crd_ok (a := a) (b := b) (c := c) (d := d) (by omega) (by omega) (by omega) (by omega)
  have cH := fun W => implLeastGauge_any a b c d z W
  rw [k1, inB_iff.2 hz] at cH
  obtain ⟨r, hr⟩ : ∃ r, r = lstN (lgP a b z) 10000 := ⟨_, rfl⟩
  have hle : r ≤ 10000 := by rw [hr]; exact lst_le _ _
  refine ⟨lgV r, lgC r, Lib.hid (fun W => by rw [hr]; exact cH W), ?_, Lib.hid (fun h5 => ?_)⟩
  · unfold lgC; split
    · exact Or.inl rfl
    · exact Or.inr rfl
  · have hr0 : r ≠ 10000 := fun e => by unfold lgC at h5; rw [if_pos e] at h5; exact absurd h5 (by decide)
    have hv : lgV r = (r : Int) + 1 := by unfold lgV; rw [if_neg hr0]
    rw [hv, show (r : Int) + 1 - 1 = (r : Int) by omega]
    have hyes := lst_yes (lgP a b z) 10000 (by omega)
    rw [← hr] at hyes
    have hp : z ≤ tenV a b ((r : Int) + 1) := by unfold lgP at hyes; exact of_decide_eq_true hyes
    have k2 := crd_ok (a := a) (b := b) (c := (r : Int) + 1) (d := d) (by omega) (by omega) (by omega) (by omega)
    have c1 := fun W => specTensionOf_any a b ((r : Int) + 1) d W
    rw [k2] at c1
    have c2 := fun W => specTensionOf_any a b (r : Int) d W
    by_cases h0 : r = 0
    · have k3 : crdB ⟨a, b, (r : Int), d⟩ = false := by
        unfold crdB
        have : inB (r : Int) 1 10000 = false := by rw [← Bool.not_eq_true, inB_iff]; omega
        simp only [this, Bool.false_and, Bool.and_false]
      rw [k3] at c2
      exact ⟨_, _, _, Lib.hid c1, Lib.hid c2, hp, Or.inr ⟨rfl, rfl⟩, by omega⟩
    · have k3 := crd_ok (a := a) (b := b) (c := (r : Int)) (d := d) (by omega) (by omega) (by omega) (by omega)
      rw [k3] at c2
      have hno := lst_pre (lgP a b z) 10000 (r - 1) (by omega)
      unfold lgP at hno
      rw [show ((r - 1 : Nat) : Int) + 1 = (r : Int) by omega] at hno
      have hq := of_decide_eq_false hno
      exact ⟨_, _, _, Lib.hid c1, Lib.hid c2, hp, Or.inl ⟨rfl, by show tenV a b r < z; omega⟩, by omega⟩
theorem sD (a b c d P : Int) (ha : 1960 ≤ a ∧ a ≤ 6593) (hb : 320 ≤ b ∧ b ≤ 335) (hc : 300 ≤ c ∧ c ≤ 2890) (hd : 60000 ≤ d ∧ d ≤ 149000) (hP : a ≤ P ∧ P ≤ 10000) : ∃ at' v : Int, Hid (∀ W : World, Calls Tryz.prog 16 #[.agg #[.int .i64 a, .int .i64 b, .int .i64 c, .int .i64 d], .int .i64 P] W fun e w' => e = .returned (.tuple #[.int .i64 (at'), .int .i64 (0)]) ∧ Below W.heap.size W w') ∧ Hid (∀ W : World, Calls Tryz.prog 16 #[.agg #[.int .i64 a, .int .i64 b, .int .i64 c, .int .i64 d], .int .i64 a] W fun e w' => e = .returned (.tuple #[.int .i64 (0), .int .i64 (0)]) ∧ Below W.heap.size W w') ∧
    Hid (∀ W : World, Calls Tryz.prog 17 #[.int .i64 (at' * P - 10 * b * (P - a))] W fun e w' => e = .returned (.int .i64 v) ∧ W = w') ∧ (0 ≤ at' ∧ at' ≤ 10 * b) ∧ 2 * v ≤ P ∧ (0 ≤ v ∧ v ≤ 10000) ∧ IntKind.i64.wrap (at' * P) = at' * P ∧ IntKind.i64.wrap (10 * b * (P - a)) = 10 * b * (P - a) ∧ IntKind.i64.wrap (at' * P - 10 * b * (P - a)) = at' * P - 10 * b * (P - a) := by
  have k1 := crd_ok (a := a) (b := b) (c := c) (d := d) (by omega) (by omega) (by omega) (by omega)
  have c1 := fun W => implStopPlace_any a b c d P W
  have c2 := fun W => implStopPlace_any a b c d a W
  rw [k1, inB_iff.2 (show a ≤ P ∧ P ≤ 10000 from hP)] at c1
  rw [k1, inB_iff.2 (show a ≤ a ∧ a ≤ 10000 by omega)] at c2
  have h0 : stV a b a = 0 := by unfold stV; rw [show a - a = 0 by omega, Int.mul_zero, rnd_zero]
  have hm := mulP_bd (a := 10 * b) (b := P - a) (A := 3350) (B := 10000) (by omega) (by omega)
  have u1 := rnd_upper (a := 10 * b * (P - a)) (b := P) (by omega)
  have l1 := rnd_lower (a := 10 * b * (P - a)) (b := P) (by omega)
  have n1 := rnd_nonneg (a := 10 * b * (P - a)) (b := P) (by omega) hm.1
  have hv : stV a b P = rnd (10 * b * (P - a)) P := rfl
  obtain ⟨T, hT⟩ : ∃ T, T = rnd (10 * b * (P - a)) P := ⟨_, rfl⟩
  rw [← hT] at u1 l1 n1 hv
  have hle : T ≤ 10 * b := by
    rcases Int.lt_or_le (10 * b) T with q | q
    · have e1 : P * (10 * b) ≤ P * T := Int.mul_le_mul_of_nonneg_left (by omega) (by omega)
      have e2 : 10 * b * (P - a) = P * (10 * b) - 10 * b * a := by rw [Int.mul_sub, Int.mul_comm (10 * b) P]
      have e3 : 3200 * 1960 ≤ 10 * b * a := Int.mul_le_mul (by omega) (by omega) (by omega) (by omega)
      omega
    · exact q
  rw [Int.mul_comm P T] at u1 l1
  obtain ⟨M, hM⟩ : ∃ M, M = 10 * b * (P - a) := ⟨_, rfl⟩
  obtain ⟨N, hN⟩ : ∃ N, N = T * P := ⟨_, rfl⟩
  rw [← hM] at u1 l1 hm
  rw [← hN] at u1 l1
  refine ⟨T, max (N - M) (-(N - M)), Lib.hid (fun W => by have := c1 W; rw [hv] at this; exact this), Lib.hid (fun W => by have := c2 W; rw [h0] at this; exact this), Lib.hid (fun W => ?_), ⟨n1, hle⟩, by omega, by omega, ?_, ?_, ?_⟩
  · rw [← hM, ← hN]; exact r8Abs_any _ (by omega) (by omega) W
  · rw [← hN]; exact IntWalk.i64_in _ (by omega)
  · rw [← hM]; exact IntWalk.i64_in _ (by omega)
  · rw [← hM, ← hN]; exact IntWalk.i64_in _ (by omega)
end Go.Proofs.YtnenccfmopjcjaaGreatDoor
