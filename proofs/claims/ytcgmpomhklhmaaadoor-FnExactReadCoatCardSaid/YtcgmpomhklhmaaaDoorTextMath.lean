/-
  Plain lemmas on the texts of chapter 2: dates, clocks, laps, numbers with places. Nothing of the program stands here.
-/
import Derived.Test.YtcgmpomhklhmaaaDoorPad
import Derived.Test.YtcgmpomhklhmaaaDoorDateMath
import Derived.Test.YtcgmpomhklhmaaaDoorCutMath
namespace Go.Proofs.YtcgmpomhklhmaaaDoor
theorem valF_app (acc : Nat) (a b : List UInt8) : valF acc (a ++ b) = valF (valF acc a) b := by unfold valF; rw [List.foldl_append]
/-- the bytes of a text that is made of three digits parts and so on: cutting it at a known place -/
theorem piece_app (a b : List UInt8) (k : Nat) (h : a.length = k) : piece (a ++ b) 0 k = a := by
  unfold piece; subst h; simp
theorem piece_mid (a b c : List UInt8) (i j : Nat) (h : a.length = i) (h2 : i + b.length = j) : piece (a ++ (b ++ c)) i j = b := by
  unfold piece; subst h; subst h2; simp
theorem getD_at (a : List UInt8) (x : UInt8) (b : List UInt8) (k : Nat) (h : a.length = k) : (a ++ x :: b).getD k 0 = x := by
  subst h
  rw [List.getD_eq_getElem?_getD, List.getElem?_append_right (Nat.le_refl _), Nat.sub_self]; rfl
/-- a text with one separator -/
theorem split_one (s : UInt8) (a b : List UInt8) (ha : ∀ x ∈ a, x ≠ s) (hb : ∀ x ∈ b, x ≠ s) : splitL s (a ++ s :: b) = [a, b] := by
  unfold splitL
  have e1 := splitSt_more s [] a ha
  have e0 : splitSt s [] = ([], []) := rfl
  rw [e0] at e1
  simp only [List.nil_append] at e1
  have e2 := splitSt_hit s a s rfl
  rw [e1] at e2
  have e3 := splitSt_more s (a ++ [s]) b hb
  rw [e2] at e3
  rw [show a ++ s :: b = a ++ [s] ++ b by simp, e3]; simp
theorem split_two (s : UInt8) (a b c : List UInt8) (ha : ∀ x ∈ a, x ≠ s) (hb : ∀ x ∈ b, x ≠ s) (hc : ∀ x ∈ c, x ≠ s) : splitL s (a ++ s :: (b ++ s :: c)) = [a, b, c] := by
  unfold splitL
  have e1 := splitSt_more s [] a ha
  have e0 : splitSt s [] = ([], []) := rfl
  rw [e0] at e1
  simp only [List.nil_append] at e1
  have e2 := splitSt_hit s a s rfl
  rw [e1] at e2
  have e3 := splitSt_more s (a ++ [s]) b hb
  rw [e2] at e3
  have e4 := splitSt_hit s (a ++ [s] ++ b) s rfl
  rw [e3] at e4
  have e5 := splitSt_more s (a ++ [s] ++ b ++ [s]) c hc
  rw [e4] at e5
  rw [show a ++ s :: (b ++ s :: c) = a ++ [s] ++ b ++ [s] ++ c by simp, e5]; simp
/-- the texts -/
def clockL (n : Nat) : List UInt8 := dN 2 (n / 60) ++ 58 :: dN 2 (n % 60)
def lapL (n : Nat) : List UInt8 := Lib.itoa ((n / 60 : Nat) : Int) ++ 58 :: dN 2 (n % 60)
def dateL (y m d : Nat) : List UInt8 := dN 4 y ++ 45 :: (dN 2 m ++ 45 :: dN 2 d)
def fixU (n p : Nat) : List UInt8 := Lib.itoa ((n / 10 ^ p : Nat) : Int) ++ 46 :: dN p (n % 10 ^ p)
def fixL (n : Int) (p : Nat) : List UInt8 := if n < 0 then 45 :: fixU n.natAbs p else fixU n.natAbs p
theorem itoa_all (n : Nat) : (Lib.itoa (n : Int)).all db = true := by
  by_cases h : n = 0
  · subst h; rw [show ((0 : Nat) : Int) = 0 from rfl, itoa_zero]; decide
  · rw [itoa_pos n (by omega)]; exact digs_all n
theorem itoa_val (n : Nat) : valF 0 (Lib.itoa (n : Int)) = n := by
  by_cases h : n = 0
  · subst h; rw [show ((0 : Nat) : Int) = 0 from rfl, itoa_zero]; rfl
  · rw [itoa_pos n (by omega)]; exact digs_val n
theorem all_ne {l : List UInt8} {c : UInt8} (h : l.all db = true) (hc : db c = false) : ∀ x ∈ l, x ≠ c := by
  intro x hx e
  subst e
  have := List.all_eq_true.1 h x hx
  rw [hc] at this; exact absurd this (by decide)
theorem itoa_pos_len (n : Nat) : 0 < (Lib.itoa (n : Int)).length := by
  by_cases h : n = 0
  · subst h; rw [show ((0 : Nat) : Int) = 0 from rfl, itoa_zero]; decide
  · rw [itoa_pos n (by omega)]; exact digsN_ne n (by omega)
/-- digits without a leading zero are the decimal form of their value -/
theorem itoa_back (b : List UInt8) (h0 : 0 < b.length) (h : b.all db = true) (hz : b.headD 0 ≠ 48 ∨ b.length = 1) : Lib.itoa ((valF 0 b : Nat) : Int) = b := by
  by_cases h1 : b.headD 0 = 48
  · have hl : b.length = 1 := by rcases hz with h' | h'; exact absurd h1 h'; exact h'
    match b, hl with
    | [c], _ =>
      have : c = 48 := h1
      subst this; exact itoa_zero
  · obtain ⟨e, hp⟩ := val_digs _ b rfl h h0 h1
    rw [itoa_pos _ hp, e]

/-! ### What the model's readers compute -/
def clockR (l : List UInt8) : Option Int := if l.length = 5 ∧ l.getD 2 0 = 58 ∧ (piece l 0 2).all db = true ∧ (piece l 3 5).all db = true ∧ valF 0 (piece l 0 2) ≤ 23 ∧ valF 0 (piece l 3 5) ≤ 59 then some ((60 * valF 0 (piece l 0 2) + valF 0 (piece l 3 5) : Nat) : Int) else none
theorem piece_len (l : List UInt8) (i j : Nat) (h : j ≤ l.length) : (piece l i j).length = j - i := by
  unfold piece; rw [List.length_take, List.length_drop]; omega
theorem parts3 (l : List UInt8) (c : UInt8) (h : l.length = 5) (hc : l.getD 2 0 = c) : l = piece l 0 2 ++ c :: piece l 3 5 := by
  match l, h with
  | [a, b, x, d, e], _ =>
    have : x = c := hc
    subst this; rfl
theorem clock_sound {l : List UInt8} {n : Int} (h : clockR l = some n) : ∃ k : Nat, n = k ∧ k ≤ 1439 ∧ clockL k = l := by
  unfold clockR at h
  split at h
  · rename_i hc
    obtain ⟨h1, h2, h3, h4, h5, h6⟩ := hc
    have e := Option.some.inj h
    refine ⟨_, e.symm, by omega, ?_⟩
    unfold clockL
    rw [show (60 * valF 0 (piece l 0 2) + valF 0 (piece l 3 5)) / 60 = valF 0 (piece l 0 2) by omega, show (60 * valF 0 (piece l 0 2) + valF 0 (piece l 3 5)) % 60 = valF 0 (piece l 3 5) by omega]
    rw [dN_back 2 _ (by rw [piece_len _ _ _ (by omega)]) h3, dN_back 2 _ (by rw [piece_len _ _ _ (by omega)]) h4]
    exact (parts3 l 58 h1 h2).symm
  · cases h
theorem clock_full (k : Nat) (h : k ≤ 1439) : clockR (clockL k) = some (k : Int) := by
  have l1 := dN_len 2 (k / 60)
  have l2 := dN_len 2 (k % 60)
  have p1 : piece (clockL k) 0 2 = dN 2 (k / 60) := piece_app _ _ _ l1
  have p2 : piece (clockL k) 3 5 = dN 2 (k % 60) := by
    unfold clockL
    rw [show dN 2 (k / 60) ++ 58 :: dN 2 (k % 60) = (dN 2 (k / 60) ++ [58]) ++ (dN 2 (k % 60) ++ []) by simp]
    exact piece_mid _ _ _ 3 5 (by simp [l1]) (by simp [l2])
  have v1 := dN_val 2 (k / 60) (by omega)
  have v2 := dN_val 2 (k % 60) (by omega)
  unfold clockR
  rw [p1, p2, v1, v2, if_pos]
  · congr 1; omega
  · refine ⟨by simp [clockL, l1, l2], ?_, dN_all _ _, dN_all _ _, by omega, by omega⟩
    exact getD_at _ _ _ _ l1
def dateR (l : List UInt8) : Option Int := if l.length = 10 ∧ l.getD 4 0 = 45 ∧ l.getD 7 0 = 45 ∧ (piece l 0 4).all db = true ∧ (piece l 5 7).all db = true ∧ (piece l 8 10).all db = true ∧ dateB (valF 0 (piece l 0 4)) (valF 0 (piece l 5 7)) (valF 0 (piece l 8 10)) = true then some (numD (valF 0 (piece l 0 4)) (valF 0 (piece l 5 7)) (valF 0 (piece l 8 10))) else none
theorem parts10 (l : List UInt8) (c d : UInt8) (h : l.length = 10) (hc : l.getD 4 0 = c) (hd : l.getD 7 0 = d) : l = piece l 0 4 ++ c :: (piece l 5 7 ++ d :: piece l 8 10) := by
  match l, h with
  | [a0, a1, a2, a3, a4, a5, a6, a7, a8, a9], _ =>
    have e1 : a4 = c := hc
    have e2 : a7 = d := hd
    subst e1; subst e2; rfl
theorem date_sound {l : List UInt8} {n : Int} (h : dateR l = some n) : ∃ y m d : Nat, dateB y m d = true ∧ numD y m d = n ∧ dateL y m d = l := by
  unfold dateR at h
  split at h
  · rename_i hc
    obtain ⟨h1, h2, h3, h4, h5, h6, h7⟩ := hc
    refine ⟨_, _, _, h7, Option.some.inj h, ?_⟩
    unfold dateL
    rw [dN_back 4 _ (by rw [piece_len _ _ _ (by omega)]) h4, dN_back 2 _ (by rw [piece_len _ _ _ (by omega)]) h5, dN_back 2 _ (by rw [piece_len _ _ _ (by omega)]) h6]
    exact (parts10 l 45 45 h1 h2 h3).symm
  · cases h
theorem date_full (y m d : Nat) (h : dateB y m d = true) : dateR (dateL y m d) = some (numD y m d) := by
  obtain ⟨a1, a2, a3, a4, a5, a6⟩ := dateB_iff.1 h
  have hb := mlen_bd (y : Int) (m : Int)
  have l1 := dN_len 4 y
  have l2 := dN_len 2 m
  have l3 := dN_len 2 d
  have p1 : piece (dateL y m d) 0 4 = dN 4 y := piece_app _ _ _ l1
  have p2 : piece (dateL y m d) 5 7 = dN 2 m := by
    unfold dateL
    rw [show dN 4 y ++ 45 :: (dN 2 m ++ 45 :: dN 2 d) = (dN 4 y ++ [45]) ++ (dN 2 m ++ (45 :: dN 2 d)) by simp]
    exact piece_mid _ _ _ 5 7 (by simp [l1]) (by simp [l2])
  have p3 : piece (dateL y m d) 8 10 = dN 2 d := by
    unfold dateL
    rw [show dN 4 y ++ 45 :: (dN 2 m ++ 45 :: dN 2 d) = (dN 4 y ++ [45] ++ dN 2 m ++ [45]) ++ (dN 2 d ++ []) by simp]
    exact piece_mid _ _ _ 8 10 (by simp [l1, l2]) (by simp [l3])
  have v1 := dN_val 4 y (by omega)
  have v2 := dN_val 2 m (by omega)
  have v3 := dN_val 2 d (by omega)
  unfold dateR
  rw [p1, p2, p3, v1, v2, v3, if_pos]
  refine ⟨by simp [dateL, l1, l2, l3], ?_, ?_, dN_all _ _, dN_all _ _, dN_all _ _, h⟩
  · exact getD_at _ _ _ _ l1
  · unfold dateL
    rw [show dN 4 y ++ 45 :: (dN 2 m ++ 45 :: dN 2 d) = (dN 4 y ++ [45] ++ dN 2 m) ++ 45 :: dN 2 d by simp]
    exact getD_at _ _ _ _ (by simp [l1, l2])
end Go.Proofs.YtcgmpomhklhmaaaDoor
