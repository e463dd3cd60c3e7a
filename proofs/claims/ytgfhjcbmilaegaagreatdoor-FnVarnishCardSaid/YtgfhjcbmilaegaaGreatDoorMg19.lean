/-
  Texts that stand together: Vrc.
-/
import Derived.Deep.DeepCutAuto
import Derived.Test.YtgfhjcbmilaegaaGreatDoorMg5
import Derived.Test.YtgfhjcbmilaegaaGreatDoorMg6
import Derived.Test.YtgfhjcbmilaegaaGreatDoorMg11
import Derived.Test.YtgfhjcbmilaegaaGreatDoorMg17
import Derived.Test.YtgfhjcbmilaegaaGreatDoorMg18
namespace Go.Proofs.YtgfhjcbmilaegaaGreatDoor
open Go.ChangeShapes Go.WideShapes Go.ChangeAt Go.RowKit Go.Deep
set_option linter.unusedVariables false
set_option maxRecDepth 1000000
set_option linter.unusedSimpArgs false
theorem u8_up {w W : World} {v : Value} {Z : List Int} (h : U8Old w.heap.size w v Z) (hb : Below w.heap.size w W) : U8Old W.heap.size W v Z := by
  obtain ⟨a, cap, h1, h2, h3, h4⟩ := h.below hb
  refine ⟨a, cap, h1, h2, h3, ?_⟩
  rcases h4 with h4 | ⟨g, o, e, hg0, hg, hc⟩
  · exact Or.inl h4
  · exact Or.inr ⟨g, o, e, hg, hg, hc⟩
/-- the choice of a byte, below n -/
def at8n (Z : List Int) (k : Nat) (n : Int) : Int := if n ≤ 1 then 0 else at8 Z k % n
theorem at8n_in (Z : List Int) (k : Nat) {n : Int} (h : 1 ≤ n) : 0 ≤ at8n Z k n ∧ at8n Z k n < n := by
  unfold at8n
  split
  · omega
  · exact ⟨Int.emod_nonneg _ (by omega), Int.emod_lt_of_pos _ (by omega)⟩
set_option maxHeartbeats 1600000 in
theorem r8AtN_any (k B : Nat) (n : Int) (v : Value) (Z : List Int) (w : World) (hk : k ≤ 100) (h0 : 0 ≤ n) (h1 : n ≤ 1000) (hZ : Z.length ≤ 1048576) (hu : U8Old B w v Z) :
    Calls Tryz.prog 7 #[v, .int .i64 k, .int .i64 n] w fun e w' => e = .returned (.int .i64 (at8n Z k n)) ∧ w = w' := by
  have hx : Hid (at8n Z k n = if n ≤ 1 then 0 else at8 Z k % n) := Lib.hid rfl
  obtain ⟨a, cap, rfl, hcap, hin, hread⟩ := hu
  by_cases hn : n ≤ 1
  · have e := hx.out
    rw [if_pos hn] at e
    rw [e]
    clear hx e hread hin
    go_enter Tryz.func7, Tryz.ntmps7
    go_wp2
    go_ret
    exact ⟨rfl, rfl⟩
  have e := hx.out
  rw [if_neg hn] at e
  have hi := at8_in hin k
  by_cases hlt : k < Z.length
  · rcases hread with rfl | ⟨g, o, rfl, hg0, hg, hc⟩
    · simp at hlt
    obtain ⟨x, hx9⟩ : ∃ x, x = at8 Z k := ⟨_, rfl⟩
    have hx2 : x = Z[k] := by rw [hx9]; unfold at8; rw [List.getD_eq_getElem?_getD, List.getElem?_eq_getElem hlt]; rfl
    have c3 : w.cell? ⟨g, o + k, none⟩ = some (.int .u8 x) := by rw [hx2]; exact hc k hlt
    rw [← hx9] at hi e
    rw [e]
    have hm : 0 ≤ x % n ∧ x % n < n := ⟨Int.emod_nonneg _ (by omega), Int.emod_lt_of_pos _ (by omega)⟩
    have hd : decide ((Z.length : Int) ≤ (k : Int)) = false := by simp; omega
    clear hc hin hx9 hx2 hx e
    go_enter Tryz.func7, Tryz.ntmps7
    go_wp2
    go_ret
    exact ⟨rfl, rfl⟩
  · have hx0 : at8 Z k = 0 := by unfold at8; rw [List.getD_eq_getElem?_getD, List.getElem?_eq_none (by omega)]; rfl
    rw [hx0, Int.zero_emod] at e
    rw [e]
    clear hread hin hi hx0 hx e
    have hd : decide ((Z.length : Int) ≤ (k : Int)) = true := by simp; omega
    go_enter Tryz.func7, Tryz.ntmps7
    go_wp2
    go_ret
    exact ⟨rfl, rfl⟩
theorem ordShape {w : World} {B e size n : Nat} {v : Value} {xs : List Value} (h : w.ownsRow B e size v n xs) : ∃ a cap, v = .slice a n cap := ownShape h
/-- three numbers and no error -/
def Row3 (L : List Int) (w : World) (e : Ending) (w' : World) : Prop :=
  ∃ (x y z : Int) (g o c : Nat), L = [x, y, z] ∧ (0 ≤ x ∧ x ≤ 255) ∧ (0 ≤ y ∧ y ≤ 255) ∧ (0 ≤ z ∧ z ≤ 255) ∧ e = .returned (.tuple #[.slice (some ⟨g, o, none⟩) 3 c, .int .i64 0]) ∧ IntsAt w' (.slice (some ⟨g, o, none⟩) 3 c) [x, y, z] ∧ Below w.heap.size w w'
theorem row3_mk {L : List Int} {w w' : World} {v : Value} (hc : col3 L) (hv : IntsAt w' v L) (hb : Below w.heap.size w w') : Row3 L w (.returned (.tuple #[v, .int .i64 0])) w' := by
  obtain ⟨x, y, z, rfl, h1, h2, h3⟩ := hc
  obtain ⟨g, o, c, rfl, _⟩ := row3 hv
  exact ⟨x, y, z, g, o, c, rfl, h1, h2, h3, rfl, hv, hb⟩
theorem vAft {vy vo vn : Value} {Y : List Ct} {O N : List Int} (hz : ctsB Y = true) (hl : Y.length ≤ 4) (ho : ordC Y.length O = true) (hn : col3 N) (W : World) (h1 : CtsAt W vy Y) (h2 : IntsAt W vo O) (h3 : IntsAt W vn N) :
    Calls Tryz.prog 8 #[vy, vo, vn] W (Row3 (aftK Y O N O.length) W) := by
  have hq := aft_yes hz hn ho
  refine (implColourAfter_any vy Y vo O vn N W (by omega) h1 (by have := ordC_len ho; omega) h2 (col3_inn hn).2 h3).mono ?_
  rintro e w' ⟨v, rfl, hown, hb⟩
  rw [hq.1]
  rw [hq.2.1] at hown
  exact row3_mk hq.2.2 (ints_ownE hown (col3_inn hq.2.2).1) hb
theorem vAftS {vy vo vn : Value} {Y : List Ct} {O N : List Int} (hz : ctsB Y = true) (hl : Y.length ≤ 4) (ho : ordC Y.length O = true) (hn : col3 N) (W : World) (h1 : CtsAt W vy Y) (h2 : IntsAt W vo O) (h3 : IntsAt W vn N) :
    Calls Tryz.prog 20 #[vy, vo, vn] W (Row3 (aftK Y O N O.length) W) := by
  have hq := aft_yes hz hn ho
  refine (specColourAfter_any vy Y vo O vn N W (by omega) h1 (by have := ordC_len ho; omega) h2 (col3_inn hn).2 h3).mono ?_
  rintro e w' ⟨v, rfl, hown, hb⟩
  rw [hq.1]
  rw [hq.2.1] at hown
  exact row3_mk hq.2.2 (ints_own hown (col3_inn hq.2.2).1) hb
theorem vDay {vy vo : Value} {Y : List Ct} {O : List Int} (hz : ctsB Y = true) (hl : Y.length ≤ 4) (ho : ordC Y.length O = true) (W : World) (h1 : CtsAt W vy Y) (h2 : IntsAt W vo O) :
    Calls Tryz.prog 9 #[vy, vo] W fun e w' => e = .returned (.tuple #[.int .i64 (sumK (dayF Y O) O.length), .int .i64 0]) ∧ Below W.heap.size W w' := by
  have hq := day_yes hz ho
  have := implDryingDays_any vy Y vo O W (by omega) h1 (by have := ordC_len ho; omega) h2
  rw [hq.1, hq.2] at this
  exact this
theorem vGap {va vb : Value} {A B : List Int} (ha : col3 A) (hb : col3 B) (W : World) (h1 : IntsAt W va A) (h2 : IntsAt W vb B) :
    Calls Tryz.prog 10 #[va, vb] W fun e w' => e = .returned (.tuple #[.int .i64 (gapL A B), .int .i64 0]) ∧ Below W.heap.size W w' := by
  have hq := gap_yes ha hb
  have := implColourGap_any va A vb B W (col3_inn ha).2 h1 (col3_inn hb).2 h2
  rw [hq.1, hq.2.1] at this
  exact this
theorem vGapS {va vb : Value} {A B : List Int} (ha : col3 A) (hb : col3 B) (W : World) (h1 : IntsAt W va A) (h2 : IntsAt W vb B) :
    Calls Tryz.prog 19 #[va, vb] W fun e w' => e = .returned (.tuple #[.int .i64 (gapL A B), .int .i64 0]) ∧ Below W.heap.size W w' := by
  have hq := gap_yes ha hb
  have := specColourGap_any va A vb B W (col3_inn ha).2 h1 (col3_inn hb).2 h2
  rw [hq.1, hq.2.1] at this
  exact this
theorem mix_col {Z : List Ct} {P : List Int} (hz : ctsB Z = true) (hl : P.length = Z.length) (h : ∀ x ∈ P, 0 ≤ x ∧ x ≤ 5) (hS : 0 < sumK (psF P) P.length) : col3 (mix3 Z P) := by
  have hb := ((mix_code hz hl h).1 hS).2.2
  have key : ∀ k, k < 3 → 0 ≤ mix1 Z P k ∧ mix1 Z P k ≤ 255 := fun k hk => mix_between h hS (fun i hi => (mx_one hz hb hk hi).1)
  exact ⟨_, _, _, rfl, key 0 (by omega), key 1 (by omega), key 2 (by omega)⟩
theorem vMix {vy vp : Value} {Y : List Ct} {P : List Int} (hz : ctsB Y = true) (hl : Y.length ≤ 4) (hp : P.length = Y.length) (h : ∀ x ∈ P, 0 ≤ x ∧ x ≤ 5) (hS : 0 < sumK (psF P) P.length) (W : World) (h1 : CtsAt W vy Y) (h2 : IntsAt W vp P) :
    Calls Tryz.prog 14 #[vy, vp] W (Row3 (mix3 Y P) W) := by
  have hq := (mix_code hz hp h).1 hS
  have hc := mix_col hz hp h hS
  refine (implMixColours_any vy Y vp P W (by omega) h1 (by omega) h2).mono ?_
  rintro e w' ⟨v, rfl, hown, hb⟩
  rw [hq.1]
  rw [hq.2.1] at hown
  exact row3_mk hc (ints_ownE hown (col3_inn hc).1) hb
theorem vMixN {vy vp : Value} {Y : List Ct} {P : List Int} (hz : ctsB Y = true) (hl : Y.length ≤ 4) (hp : P.length = Y.length) (h : ∀ x ∈ P, 0 ≤ x ∧ x ≤ 5) (hS : ¬ 0 < sumK (psF P) P.length) (W : World) (h1 : CtsAt W vy Y) (h2 : IntsAt W vp P) :
    Calls Tryz.prog 14 #[vy, vp] W fun e w' => ∃ v, e = .returned (.tuple #[v, .int .i64 7]) ∧ Below W.heap.size W w' := by
  have hq := (mix_code hz hp h).2 hS
  refine (implMixColours_any vy Y vp P W (by omega) h1 (by omega) h2).mono ?_
  rintro e w' ⟨v, rfl, hown, hb⟩
  rw [hq.1]
  exact ⟨v, rfl, hb⟩
theorem vStr {vy : Value} {Y : List Ct} (hz : ctsB Y = true) (hl : Y.length ≤ 4) : ∃ m c : Int, (Y.length = 0 → c = 3) ∧ (0 < Y.length → c = 0 ∧ ∃ k : Nat, m = (k : Int) ∧ k < Y.length ∧ ∀ i, i < Y.length → (Y.getD i ct0).cover ≤ (Y.getD k ct0).cover) ∧
    ∀ W : World, CtsAt W vy Y → Calls Tryz.prog 15 #[vy] W fun e w' => e = .returned (.tuple #[.int .i64 m, .int .i64 c]) ∧ Below W.heap.size W w' := by
  have hq := str_yes hz
  refine ⟨strV Y, strC Y, fun h => (hq.1 h).1, fun h => ?_, fun W h1 => implStrongestCoat_any vy Y W (by omega) h1⟩
  obtain ⟨h2, k, h3, h4, h5⟩ := hq.2 h
  exact ⟨h2, k, h3, h4, h5⟩
theorem vFew {s : ByteArray} {a b : Int} {u vg vh : Value} {L G H : List Int} {z : Int} (hx : ctB ⟨s, a, b, L⟩ = true) (hs : s.size ≤ maxLen) (hL : L.length ≤ maxLen) (hG : col3 G) (hH : col3 H) (hz : 0 ≤ z ∧ z ≤ 765) :
    ∃ (f c : Int) (F : Nat), F ≤ 11 ∧ (F < 11 → c = 0 ∧ f = (F : Int) ∧ gapL (itK L b G F) H ≤ z) ∧ (F = 11 → c = 3 ∧ f = 0) ∧ (∀ k, k < 11 → gapL (itK L b G k) H ≤ z → F ≤ k) ∧
    ∀ W : World, IntsAt W u L → IntsAt W vg G → IntsAt W vh H → Calls Tryz.prog 18 #[.agg #[.string s, .int .i64 a, .int .i64 b, u], vg, vh, .int .i64 z] W fun e w' => e = .returned (.tuple #[.int .i64 f, .int .i64 c]) ∧ Below W.heap.size W w' := by
  obtain ⟨F, h1, h2, h3, h4⟩ := few_yes hx hG hH hz
  exact ⟨_, _, F, h1, h2, h3, h4, fun W i1 i2 i3 => implFewestCoats_any s a b u L vg G vh H z W hs hL i1 (col3_inn hG).2 i2 (col3_inn hH).2 i3⟩
theorem ctT_len {x : Ct} (h : ctB x = true) : (ctT x).length ≤ 1048576 := by
  have hb := ctB_bd h
  obtain ⟨p, q, r, hc, b1, b2, b3⟩ := colB_iff hb.2.2
  have hn : nameL x.id.data.toList = true := by
    unfold ctB at h
    simp only [Bool.and_eq_true] at h
    exact h.1.1.1
  have hl : x.id.data.toList.length ≤ 10 := by
    unfold nameL at hn
    simp only [Bool.and_eq_true, decide_eq_true_eq] at hn
    exact hn.1.1.2
  have key : ∀ Z : List Int, (∀ n ∈ Z, -9223372036854775808 ≤ n ∧ n ≤ 9223372036854775807) → (textZ Z).length ≤ 22 * Z.length + 1 := fun Z hZ => by
    unfold textZ
    split
    · simp
    · have := joinK_le Z Z.length hZ
      rw [joinK_all] at this
      omega
  have k1 := key [x.days, x.cover] (by intro n hn; simp only [List.mem_cons, List.mem_nil_iff, or_false] at hn; rcases hn with rfl | rfl <;> omega)
  have k2 := key x.col (by rw [hc]; intro n hn; simp only [List.mem_cons, List.mem_nil_iff, or_false] at hn; rcases hn with rfl | rfl | rfl <;> omega)
  rw [hc] at k2
  unfold ctT
  rw [if_pos h, hc]
  simp only [List.length_append, List.length_cons, List.length_nil] at k1 k2 ⊢
  omega
theorem vText {s : ByteArray} {a b : Int} {u : Value} {L : List Int} (hx : ctB ⟨s, a, b, L⟩ = true) (hs : s.size ≤ maxLen) (hL : L.length ≤ maxLen) : ∃ D : ByteArray,
    (∀ W : World, IntsAt W u L → TabP W → Calls Tryz.prog 17 #[.agg #[.string s, .int .i64 a, .int .i64 b, u]] W fun e w' => e = .returned (.string D) ∧ Below W.heap.size W w') ∧
    (∀ W : World, TabP W → ErrsAt W → W.ShapedOpen Tryz.prog → Calls Tryz.prog 16 #[.string D] W fun e w' => ∃ ua uc, e = .returned (.tuple #[.agg #[.string s, .int .i64 a, .int .i64 b, .slice ua L.length uc], .bool true]) ∧ Below W.heap.size W w') := by
  refine ⟨⟨(ctT ⟨s, a, b, L⟩).toArray⟩, fun W h1 h2 => implCoatText_any s a b u L W hs hL h1 h2, fun W h1 h2 h3 => ?_⟩
  refine (implReadCoat_any ⟨(ctT ⟨s, a, b, L⟩).toArray⟩ W (ctT_len hx) h1 h2 h3).mono ?_
  intro e w' h
  have e1 : ctO (ByteArray.mk (ctT ⟨s, a, b, L⟩).toArray).data.toList = some ⟨s, a, b, L⟩ := ct_back hx
  rw [e1] at h
  obtain ⟨u', h4, h6, h5⟩ := h
  obtain ⟨ua, uc, rfl⟩ := ownShape h6
  exact ⟨ua, uc, h4, h5⟩
/-- a new row of three numbers -/
theorem app3 {W : World} {g o c : Nat} {x y z : Int} (h : IntsAt W (.slice (some ⟨g, o, none⟩) 3 c) [x, y, z]) (ob : Obj) : ∀ (j : Nat) (u : Value), ([.int .i64 x, .int .i64 y, .int .i64 z] : List Value)[j]? = some u → (W.alloc ob).cell? ((⟨g, o, none⟩ : Addr).add j) = some u := by
  obtain ⟨g', o', c', e, hg, k0, k1, k2⟩ := row3 h
  injection e with e1 e2 e3
  injection e1 with e1
  injection e1 with e4 e5
  subst e4 e5
  intro j u hu
  have hb : Below W.heap.size W (W.alloc ob) := (Below.refl _ _).alloc (Nat.le_refl _) _
  have hadd : (⟨g, o, none⟩ : Addr).add j = ⟨g, o + j, none⟩ := by unfold Addr.add; split <;> simp_all
  rw [hadd, hb.cell (p := ⟨g, o + j, none⟩) hg]
  match j, hu with
  | 0, hu => rw [← hu]; exact k0
  | 1, hu => rw [← hu]; exact k1
  | 2, hu => rw [← hu]; exact k2
theorem own3_start (W : World) : (W.alloc (.cells #[] 2)).ownsRow W.heap.size 2 1 (.slice (some ⟨W.heap.size, 0, none⟩) 0 0) 0 [] :=
  ⟨rfl, Or.inr ⟨W.heap.size, 0, #[], rfl, Nat.le_refl _, heap_alloc_new _ _, Nat.le_refl 0, by unfold maxLen; omega, rfl, rfl⟩⟩
theorem app3_end {W w9 : World} {s v9 : Value} {x y z : Int} (h : IntsAt W s [x, y, z]) (hown : w9.ownsRow W.heap.size 2 1 v9 (0 + 3) ([] ++ [.int .i64 x, .int .i64 y, .int .i64 z])) (hg : (W.alloc (.cells #[] 2)).grownBy w9 (some W.heap.size)) :
    ∃ (g o c : Nat), v9 = .slice (some ⟨g, o, none⟩) 3 c ∧ IntsAt w9 (.slice (some ⟨g, o, none⟩) 3 c) [x, y, z] ∧ Below W.heap.size W w9 := by
  have hin : ∀ n ∈ ([x, y, z] : List Int), inI n := by obtain ⟨_, _, _, _, h, _⟩ := h; exact h
  have ho : w9.ownsRow W.heap.size 2 1 v9 ([x, y, z] : List Int).length (([x, y, z] : List Int).map encI) := by simpa [encI] using hown
  have hi := ints_own ho hin
  obtain ⟨g, o, c, rfl, _⟩ := row3 hi
  exact ⟨g, o, c, rfl, hi, ((Below.refl W.heap.size W).alloc (Nat.le_refl _) (.cells #[] 2)).grown hg (by simp) (fun j hj => by injection hj with hj; omega)⟩
theorem cell3 {w : World} {g o c q : Nat} {L : List Int} (h : IntsAt w (.slice (some ⟨g, o, none⟩) 3 c) L) (hl : L.length = 3) (hq : q < 3) : w.cell? ⟨g, o + q, none⟩ = some (.int .i64 (L.getD q 0)) ∧ g < w.heap.size := by
  obtain ⟨a, cap, e, _, _, hr⟩ := h
  injection e with e1 e2 e3
  subst e1
  rcases hr with h | ⟨g', o', e4, hg, hc⟩
  · subst h; simp at hl
  · injection e4 with e4
    injection e4 with e5 e6
    subst e5 e6
    exact ⟨by rw [getD_of 0 (by omega)]; exact hc q (by omega), hg⟩
/-- what the innermost test of the colours needs -/
theorem ov_walk {nk nn cc b : Int} (h0 : 0 ≤ nk ∧ nk ≤ 255) (h1 : 0 ≤ nn ∧ nn ≤ 255) (h2 : 0 ≤ cc ∧ cc ≤ 255) (hb : 0 ≤ b ∧ b ≤ 1000) (t1 : min nn cc ≤ nk) (t2 : nk ≤ max nn cc)
    (t3 : 2 * (1000 * nk - nn * (1000 - b) - cc * b) ≤ 1000) (t4 : -1000 ≤ 2 * (1000 * nk - nn * (1000 - b) - cc * b)) :
    IntKind.i64.wrap (1000 * nk) = 1000 * nk ∧ IntKind.i64.wrap (1000 - b) = 1000 - b ∧ IntKind.i64.wrap (nn * (1000 - b)) = nn * (1000 - b) ∧ IntKind.i64.wrap (1000 * nk - nn * (1000 - b)) = 1000 * nk - nn * (1000 - b) ∧
    IntKind.i64.wrap (cc * b) = cc * b ∧ IntKind.i64.wrap (1000 * nk - nn * (1000 - b) - cc * b) = 1000 * nk - nn * (1000 - b) - cc * b ∧
    IntKind.i64.wrap (2 * max (1000 * nk - nn * (1000 - b) - cc * b) (-(1000 * nk - nn * (1000 - b) - cc * b))) = 2 * max (1000 * nk - nn * (1000 - b) - cc * b) (-(1000 * nk - nn * (1000 - b) - cc * b)) ∧
    decide (nk < min nn cc) = false ∧ decide (max nn cc < nk) = false ∧ decide (1000 < 2 * max (1000 * nk - nn * (1000 - b) - cc * b) (-(1000 * nk - nn * (1000 - b) - cc * b))) = false ∧
    ∀ W : World, Calls Tryz.prog 12 #[.int .i64 (1000 * nk - nn * (1000 - b) - cc * b)] W fun e w' => e = .returned (.int .i64 (max (1000 * nk - nn * (1000 - b) - cc * b) (-(1000 * nk - nn * (1000 - b) - cc * b)))) ∧ W = w' := by
  have l1 : 0 ≤ nn * (1000 - b) := Int.mul_nonneg h1.1 (by omega)
  have l2 : nn * (1000 - b) ≤ 255 * 1000 := Int.mul_le_mul h1.2 (by omega) (by omega) (by omega)
  have l3 : 0 ≤ cc * b := Int.mul_nonneg h2.1 hb.1
  have l4 : cc * b ≤ 255 * 1000 := Int.mul_le_mul h2.2 hb.2 hb.1 (by omega)
  generalize nn * (1000 - b) = p at *
  generalize cc * b = q at *
  refine ⟨IntWalk.i64_in _ (by omega), IntWalk.i64_in _ (by omega), IntWalk.i64_in _ (by omega), IntWalk.i64_in _ (by omega), IntWalk.i64_in _ (by omega), IntWalk.i64_in _ (by omega), IntWalk.i64_in _ (by omega), decide_eq_false (by omega), decide_eq_false (by omega), decide_eq_false (by omega), fun W => r8Abs_any _ (by omega) (by omega) W⟩
theorem ct_cell {w : World} {g o : Nat} {x : Ct} {u : Value} (h : w.rangeAt g o (x.cells u)) : w.cell? ⟨g, o, none⟩ = some (.string x.id) ∧ w.cell? ⟨g, o + 1, none⟩ = some (.int .i64 x.days) ∧ w.cell? ⟨g, o + 2, none⟩ = some (.int .i64 x.cover) ∧ w.cell? ⟨g, o + 3, none⟩ = some u :=
  ⟨by simpa using h 0 _ rfl, h 1 _ rfl, h 2 _ rfl, h 3 _ rfl⟩
/-- the last number of a row that has just grown -/
theorem own_last {w : World} {B : Nat} {v : Value} {P : List Int} {x : Int} (h : w.ownsRow B 2 1 v (P ++ [x]).length ((P ++ [x]).map encI)) (hin : ∀ n ∈ P ++ [x], inI n) :
    ∃ g o c, v = .slice (some ⟨g, o, none⟩) (P.length + 1) c ∧ w.cell? ⟨g, o + P.length, none⟩ = some (.int .i64 x) := by
  obtain ⟨a, cap, rfl, _, _, hr⟩ := ints_own h hin
  rcases hr with hr | ⟨g, o, rfl, hg, hc⟩
  · simp at hr
  · refine ⟨g, o, cap, by simp, ?_⟩
    have := hc P.length (by simp)
    rw [this]
    simp
/-- a mixture, whatever the parts -/
theorem vMixA {vy vp : Value} {Y : List Ct} {P : List Int} (hz : ctsB Y = true) (hl : Y.length ≤ 4) (hp : P.length = Y.length) (h : ∀ x ∈ P, 0 ≤ x ∧ x ≤ 5) (W : World) (h1 : CtsAt W vy Y) (h2 : IntsAt W vp P) :
    Calls Tryz.prog 14 #[vy, vp] W fun e w' => ∃ (v : Value) (c : Int), e = .returned (.tuple #[v, .int .i64 c]) ∧ Below W.heap.size W w' ∧
      ((0 < sumK (psF P) P.length ∧ c = 0 ∧ ∃ (x y z : Int) (g o cap : Nat), v = .slice (some ⟨g, o, none⟩) 3 cap ∧ mix3 Y P = [x, y, z] ∧ (0 ≤ x ∧ x ≤ 255) ∧ (0 ≤ y ∧ y ≤ 255) ∧ (0 ≤ z ∧ z ≤ 255) ∧ IntsAt w' v [x, y, z]) ∨ (¬ 0 < sumK (psF P) P.length ∧ c = 7)) := by
  by_cases hS : 0 < sumK (psF P) P.length
  · refine (vMix hz hl hp h hS W h1 h2).mono ?_
    rintro e w' ⟨x, y, z, g, o, c, he, hx, hy, hz', rfl, hi, hb⟩
    exact ⟨_, _, rfl, hb, Or.inl ⟨hS, rfl, x, y, z, g, o, c, rfl, he, hx, hy, hz', hi⟩⟩
  · refine (vMixN hz hl hp h hS W h1 h2).mono ?_
    rintro e w' ⟨v, rfl, hb⟩
    exact ⟨v, 7, rfl, hb, Or.inr ⟨hS, rfl⟩⟩
theorem mix_cell {w : World} {g o cap : Nat} {x y z : Int} {Y : List Ct} {P : List Int} (h : IntsAt w (.slice (some ⟨g, o, none⟩) 3 cap) [x, y, z]) (e : mix3 Y P = [x, y, z]) {q : Nat} (hq : q < 3) : w.cell? ⟨g, o + q, none⟩ = some (.int .i64 (mix1 Y P q)) := by
  have := (cell3 h rfl hq).1
  rw [this, ← e]
  match q, hq with
  | 0, _ => rfl
  | 1, _ => rfl
  | 2, _ => rfl
theorem one_row (W : World) (t : TypeId) (a : Int) (ha : inI a) : IntsAt (W.alloc (.cells #[.int .i64 a] t)) (.slice (some ⟨W.heap.size, 0, none⟩) 1 1) [a] := by
  refine ⟨some ⟨W.heap.size, 0, none⟩, 1, rfl, Nat.le_refl 1, ?_, Or.inr ⟨W.heap.size, 0, rfl, by simp, ?_⟩⟩
  · intro n hn
    simp only [List.mem_cons, List.mem_nil_iff, or_false] at hn
    rcases hn with rfl; assumption
  · intro i hi
    rw [Nat.zero_add, World.cell?_alloc_mark]
    match i, hi with
    | 0, _ => rfl
end Go.Proofs.YtgfhjcbmilaegaaGreatDoor
