/-
  What is left of strips that were given: what comes of it, and the program's contract.
-/
import Derived.Test.YtgbjdjkmmmgnnaaFst
import Derived.BigQuiet
import Derived.Deep.QuietTactic
import Derived.Deep.RegionHeld3
import Derived.Deep.AppendLies
namespace Go.Proofs.Ytgbjdjkmmmgnnaa
open Go.ChangeShapes Go.WideShapes Go.ChangeAt Go.RowKit Go.Deep
set_option linter.unusedVariables false
set_option linter.unusedSimpArgs false
set_option maxRecDepth 1000000
/-- how many strips the first k are, if each is first used when all lesser ones are -/
def usdN (G : List Int) : Nat → Nat
  | 0 => 0
  | k + 1 => if G.getD k 0 = (usdN G k : Int) then usdN G k + 1 else usdN G k
theorem usdN_le (G : List Int) : ∀ k, usdN G k ≤ k
  | 0 => Nat.le_refl _
  | k + 1 => by have := usdN_le G k; unfold usdN; split <;> omega
def ordS (G : List Int) (i : Nat) : Bool := inB (G.getD i 0) 0 (usdN G i)
def slU (L W : Int) (Z : List Rib) (G : List Int) : Nat → List Int
  | 0 => []
  | k + 1 => cutU L W (slU L W Z G k) (G.getD k 0).toNat (Z.getD k rib0).len
def fitS (L W : Int) (Z : List Rib) (G : List Int) (i : Nat) : Bool := fitsK L W (slU L W Z G i) (G.getD i 0).toNat (Z.getD i rib0).len
def gvS (G : List Int) (k : Nat) : List Int := (List.range k).map (fun i => (((G.getD i 0).toNat : Nat) : Int))
theorem gvS_succ (G : List Int) (k : Nat) : gvS G (k + 1) = gvS G k ++ [(((G.getD k 0).toNat : Nat) : Int)] := by unfold gvS; rw [List.range_succ, List.map_append]; rfl
theorem gvS_len (G : List Int) (k : Nat) : (gvS G k).length = k := by unfold gvS; simp
theorem slU_len {L W : Int} {Z : List Rib} {G : List Int} : ∀ k, allK (ordS G) k = true → (slU L W Z G k).length = usdN G k
  | 0, _ => rfl
  | k + 1, h => by
    have h1 : allK (ordS G) k = true := (allK_iff _ _).2 (fun i hi => (allK_iff _ _).1 h i (by omega))
    have h2 := (allK_iff _ _).1 h k (by omega)
    unfold ordS at h2
    have h3 := inB_iff.1 h2
    have ih := slU_len (L := L) (W := W) (Z := Z) k h1
    unfold slU usdN cutU
    rw [putU_len, ih]
    by_cases e : G.getD k 0 = (usdN G k : Int)
    · rw [if_pos e, if_neg (by omega)]
    · rw [if_neg e, if_pos (by omega)]
/-- the least that may be left behind k cuts -/
def inW (L : Int) (k : Nat) (U : List Int) : Prop := ∀ u ∈ U, -(20000 * (k : Int)) ≤ u ∧ u ≤ L - 1
theorem inW_cut {L W : Int} {U : List Int} {k : Nat} (h : inW L k U) (hL : 1 ≤ L) (hW : 0 ≤ W ∧ W ≤ 100) {j : Nat} {a : Int} (ha : 1 ≤ a ∧ a ≤ 10000) : inW L (k + 1) (cutU L W U j a) := by
  intro u hu
  rcases mem_putU hu with h1 | rfl
  · have := h u h1; omega
  · unfold leftK
    by_cases hk : j < U.length
    · rw [if_pos hk]
      have hj : U.getD j 0 ∈ U := by rw [List.getD_eq_getElem?_getD, List.getElem?_eq_getElem hk]; exact List.getElem_mem hk
      have := h _ hj; omega
    · rw [if_neg hk]; omega
theorem slU_in {L W : Int} {Z : List Rib} {G : List Int} (hz : ribsB Z = true) (hL : 1 ≤ L) (hW : 0 ≤ W ∧ W ≤ 100) : ∀ k, k ≤ Z.length → inW L k (slU L W Z G k)
  | 0, _ => fun u hu => (by cases hu)
  | k + 1, hk => by
    have ih := slU_in hz hL hW k (by omega) (G := G)
    have hx := ribs_mem hz (List.getElem_mem (show k < Z.length by omega))
    unfold slU
    rw [rib_getD_at' (by omega)]
    exact inW_cut ih hL hW hx.1
def negU (U : List Int) : Prop := ∃ i, i < U.length ∧ U.getD i 0 < 0
theorem getD_put (U : List Int) (k : Nat) (v : Int) (i : Nat) (hk : k ≤ U.length) (hi : i < (putU U k v).length) : (putU U k v).getD i 0 = if i = k then v else U.getD i 0 := by
  rw [putU_len] at hi
  unfold putU
  by_cases h : k < U.length
  · rw [if_pos h] at hi ⊢
    rw [List.getD_eq_getElem?_getD, List.getElem?_set, List.getD_eq_getElem?_getD]
    by_cases e : i = k
    · subst e; rw [if_pos rfl, if_pos rfl, if_pos h]; rfl
    · rw [if_neg e, if_neg (fun q => e q.symm)]
  · rw [if_neg h] at hi ⊢
    have hk2 : k = U.length := by omega
    by_cases e : i = k
    · rw [if_pos e, List.getD_eq_getElem?_getD, List.getElem?_append_right (by omega), e, hk2, Nat.sub_self]; rfl
    · rw [if_neg e, List.getD_eq_getElem?_getD, List.getElem?_append_left (by omega), List.getD_eq_getElem?_getD]
theorem neg_cut {L W : Int} {U : List Int} (h : negU U) (hW : 0 ≤ W) {j : Nat} {a : Int} (ha : 1 ≤ a) (hj : j ≤ U.length) : negU (cutU L W U j a) := by
  obtain ⟨i, hi, hn⟩ := h
  have hl : i < (cutU L W U j a).length := by unfold cutU; rw [putU_len]; split <;> omega
  refine ⟨i, hl, ?_⟩
  unfold cutU at hl ⊢
  rw [getD_put U j _ i hj hl]
  by_cases e : i = j
  · rw [if_pos e]; subst e; unfold leftK; rw [if_pos hi]; omega
  · rw [if_neg e]; exact hn
theorem neg_new {L W : Int} {U : List Int} {j : Nat} {a : Int} (hj : j ≤ U.length) (hf : fitsK L W U j a = false) : negU (cutU L W U j a) := by
  unfold fitsK at hf
  have hf := of_decide_eq_false hf
  have hl : j < (cutU L W U j a).length := by unfold cutU; rw [putU_len]; split <;> omega
  refine ⟨j, hl, ?_⟩
  unfold cutU at hl ⊢
  rw [getD_put U j _ j hj hl, if_pos rfl]; omega
theorem pos_cut {L W : Int} {U : List Int} {j : Nat} {a : Int} (h : ¬ negU U) (hj : j ≤ U.length) (hf : fitsK L W U j a = true) : ¬ negU (cutU L W U j a) := by
  rintro ⟨i, hi, hn⟩
  unfold fitsK at hf
  have hf := of_decide_eq_true hf
  have hl := hi
  unfold cutU at hl hn
  rw [getD_put U j _ i hj hl] at hn
  by_cases e : i = j
  · rw [if_pos e] at hn; omega
  · rw [if_neg e] at hn
    rw [putU_len] at hl
    exact h ⟨i, by split at hl <;> omega, hn⟩
theorem ord_le {G : List Int} {n k : Nat} (h : allK (ordS G) n = true) (hk : k < n) : (G.getD k 0).toNat ≤ usdN G k ∧ ((G.getD k 0).toNat : Int) = G.getD k 0 := by
  have h2 := (allK_iff _ _).1 h k hk
  unfold ordS at h2
  have := inB_iff.1 h2
  omega
theorem ord_sub {G : List Int} {n k : Nat} (h : allK (ordS G) n = true) (hk : k ≤ n) : allK (ordS G) k = true := (allK_iff _ _).2 (fun i hi => (allK_iff _ _).1 h i (by omega))
/-- nothing is missing at the end just where all ribs fit -/
theorem fit_iff {L W : Int} {Z : List Rib} {G : List Int} (hz : ribsB Z = true) (hW : 0 ≤ W) (ho : allK (ordS G) Z.length = true) : ∀ k, k ≤ Z.length → (allK (fitS L W Z G) k = true ↔ ¬ negU (slU L W Z G k))
  | 0, _ => ⟨fun _ h => by obtain ⟨i, hi, _⟩ := h; exact absurd hi (Nat.not_lt_zero _), fun _ => rfl⟩
  | k + 1, hk => by
    have ih := fit_iff hz hW ho k (by omega) (L := L)
    have hx := ribs_mem hz (List.getElem_mem (show k < Z.length by omega))
    obtain ⟨o1, o2⟩ := ord_le ho (show k < Z.length by omega)
    have hl := slU_len (L := L) (W := W) (Z := Z) k (ord_sub ho (by omega))
    have e2 : slU L W Z G (k + 1) = cutU L W (slU L W Z G k) (G.getD k 0).toNat (Z.getD k rib0).len := rfl
    have e1 : allK (fitS L W Z G) (k + 1) = (allK (fitS L W Z G) k && fitS L W Z G k) := rfl
    have e3 : fitS L W Z G k = fitsK L W (slU L W Z G k) (G.getD k 0).toNat (Z.getD k rib0).len := rfl
    rw [e1, e2, Bool.and_eq_true, e3, rib_getD_at' (by omega)]
    constructor
    · rintro ⟨h1, h2⟩
      exact pos_cut (ih.1 h1) (by omega) h2
    · intro h
      cases hf : fitsK L W (slU L W Z G k) (G.getD k 0).toNat Z[k].len
      · exact absurd (neg_new (by omega) hf) h
      · refine ⟨ih.2 (fun hn => h (neg_cut hn hW hx.1.1 (by omega))), rfl⟩
def slC (Z : List Rib) (G : List Int) (L W : Int) : Int := if ribsB Z = true then (if askB L W = true then (if G.length = Z.length then (if allK (ordS G) Z.length = true then (if allK (fitS L W Z G) Z.length = true then 0 else 6) else 7) else 7) else 2) else 1
def slV (Z : List Rib) (G : List Int) (L W : Int) : List Int := if slC Z G L W = 0 then slU L W Z G Z.length else []
theorem sl_bad {Z : List Rib} {G : List Int} {L W c : Int} (e : slC Z G L W = c) (hc : c ≠ 0) : slV Z G L W = [] ∧ slC Z G L W = c := by unfold slV; rw [e, if_neg hc]; exact ⟨rfl, rfl⟩
theorem sl_good {Z : List Rib} {G : List Int} {L W : Int} (e : slC Z G L W = 0) : slV Z G L W = slU L W Z G Z.length ∧ slC Z G L W = 0 := by unfold slV; rw [e, if_pos rfl]; exact ⟨rfl, rfl⟩
theorem slV_in {Z : List Rib} {G : List Int} {L W : Int} : (∀ x ∈ slV Z G L W, inI x) ∧ (slV Z G L W).length ≤ 8 := by
  by_cases e : slC Z G L W = 0
  · rw [(sl_good e).1]
    unfold slC at e
    cases h1 : ribsB Z
    · rw [h1, if_neg (by decide)] at e; exact absurd e (by decide)
    rw [h1, if_pos rfl] at e
    cases h2 : askB L W
    · rw [h2, if_neg (by decide)] at e; exact absurd e (by decide)
    rw [h2, if_pos rfl] at e
    by_cases h3 : G.length = Z.length
    rotate_left
    · rw [if_neg h3] at e; exact absurd e (by decide)
    rw [if_pos h3] at e
    cases h4 : allK (ordS G) Z.length
    · rw [h4, if_neg (by decide)] at e; exact absurd e (by decide)
    unfold askB at h2
    rw [Bool.and_eq_true, inB_iff, inB_iff] at h2
    have h8 := ribs_8 h1
    have hb := slU_in (G := G) h1 h2.1.1 h2.2 Z.length (Nat.le_refl _)
    have hl := slU_len (L := L) (W := W) (Z := Z) Z.length h4
    have hu := usdN_le G Z.length
    exact ⟨fun x hx => by have := hb x hx; unfold inI; omega, by omega⟩
  · unfold slV; rw [if_neg e]; exact ⟨fun x hx => (by cases hx), by simp⟩
theorem ints_get {w : World} {a : Option Addr} {cap n : Nat} {G : List Int} (h : IntsAt w (.slice a n cap) G) : n = G.length ∧ (G = [] ∨ ∃ g o, a = some ⟨g, o, none⟩ ∧ g < w.heap.size ∧ ∀ i (hi : i < G.length), w.cell? ⟨g, o + i, none⟩ = some (.int .i64 G[i])) := by
  obtain ⟨a', cap', e, _, _, hr⟩ := h
  injection e with e1 e2 e3
  subst e1
  exact ⟨e2, hr⟩
theorem getD_getI {G : List Int} {k : Nat} (h : k < G.length) : G.getD k 0 = G[k] := by rw [List.getD_eq_getElem?_getD, List.getElem?_eq_getElem h]; rfl
set_option maxHeartbeats 1600000 in
theorem inOrder_any (v : Value) (G : List Int) (w : World) (hn : G.length ≤ 1000) (hv : IntsAt w v G) : Calls Try.prog 56 #[v] w fun e w' => e = .returned (.bool (allK (ordS G) G.length)) ∧ w = w' := by
  obtain ⟨a0, cap, rfl, hcap, hzz, hread⟩ := hv
  have hread' := Lib.hid hread
  clear hread
  go_enter Try.func56, Try.ntmps56
  go_wp2
  go_loopw [3, 8] (fun q i wr => ∃ k u : Nat, k ≤ G.length ∧ i = .int .i64 k ∧ q = .int .i64 u ∧ u ≤ k ∧ Hid (u = usdN G k) ∧ Hid (allK (ordS G) k = true) ∧ wr = w) (fun _ i _ => G.length - (intOf i).toNat)
  case atStart => exact ⟨0, 0, by omega, rfl, rfl, by omega, Lib.hid rfl, Lib.hid rfl, rfl⟩
  case round =>
    obtain ⟨k, u, hk, rfl, rfl, huk, hu, hall, rfl⟩ := hrel
    by_cases hlt : k < G.length
    · rcases hread'.out with h | ⟨g, o, rfl, hg, hc⟩
      · subst h; simp at hlt
      have hltI : (k : Int) < (G.length : Int) := by omega
      have c1 := hc k hlt
      have hos : Hid (ordS G k = inB G[k] 0 u) := Lib.hid (by unfold ordS; rw [getD_getI hlt, hu.out])
      have hus : Hid (usdN G (k + 1) = if G[k] = (u : Int) then u + 1 else u) := Lib.hid (by show (if G.getD k 0 = (usdN G k : Int) then usdN G k + 1 else usdN G k) = _; rw [getD_getI hlt, ← hu.out])
      obtain ⟨x, hx⟩ : ∃ x, x = G[k] := ⟨_, rfl⟩
      rw [← hx] at c1 hos hus
      clear hx hc
      cases hin : inB x 0 u
      · have hno : Hid (allK (ordS G) G.length = false) := Lib.hid (allK_no (by rw [hos.out, hin]) hlt)
        go_wp2_with (go_at_call 59; refine (within64_any _ _ _ _).mono ?_; rintro e w' ⟨rfl, rfl⟩)
        go_ret
        exact ⟨ret_bool (by rw [hno.out]), rfl⟩
      · have hxb := inB_iff.1 hin
        have hall2 : Hid (allK (ordS G) (k + 1) = true) := Lib.hid (allK_yes hall.out (by rw [hos.out, hin]))
        by_cases hxu : x = (u : Int)
        · have hmx : ¬ (x + 1 ≤ (u : Int)) := by omega
          have hxu' := Lib.hid hxu
          clear hxu
          go_wp2_with (go_at_call 59; refine (within64_any _ _ _ _).mono ?_; rintro e w' ⟨rfl, rfl⟩)
          all_goals
            go_roundw
            case rel => exact ⟨k + 1, u + 1, by omega, by go_num, by (congr 1; have := hxu'.out; omega), by omega, Lib.hid (by rw [hus.out, if_pos hxu'.out]), hall2, by first | rfl | trivial⟩
            case measure => simp [intOf] <;> omega
        · have hmx : x + 1 ≤ (u : Int) := by omega
          go_wp2_with (go_at_call 59; refine (within64_any _ _ _ _).mono ?_; rintro e w' ⟨rfl, rfl⟩)
          all_goals
            go_roundw
            case rel => exact ⟨k + 1, u, by omega, by go_num, by first | rfl | (congr 1; omega), by omega, Lib.hid (by rw [hus.out, if_neg hxu]), hall2, by first | rfl | trivial⟩
            case measure => simp [intOf] <;> omega
    · obtain rfl : k = G.length := by omega
      go_wp2
      go_ret
      exact ⟨ret_bool (by rw [hall.out]), rfl⟩
end Go.Proofs.Ytgbjdjkmmmgnnaa
